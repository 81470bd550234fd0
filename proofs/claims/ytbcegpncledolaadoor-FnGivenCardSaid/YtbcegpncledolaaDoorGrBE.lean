/-
  FnGiven over bytes that are few enough.
-/
import Derived.Test.YtbcegpncledolaaDoorGrBB
import Derived.Test.YtbcegpncledolaaDoorGrBA
import Derived.Test.YtbcegpncledolaaDoorGrBD
import Derived.Deep.DeepCutAuto
namespace Go.Proofs.YtbcegpncledolaaDoor
open Go.RowKit Go.PlainAid
set_option linter.unusedVariables false
set_option linter.unusedSimpArgs false

def SPd (w : World) (gp : Nat) (p0 p1 p2 : Int) : Prop := (w.cell? ⟨gp, 0, none⟩ = some (.int .i64 p0) ∧ w.cell? ⟨gp, 1, none⟩ = some (.int .i64 p1) ∧ w.cell? ⟨gp, 2, none⟩ = some (.int .i64 p2))
def SPe (w : World) (gp x4 : Nat) (p0 p1 p2 dd : Int) : Prop := (w.cell? ⟨gp, 0, none⟩ = some (.int .i64 p0) ∧ w.cell? ⟨gp, 1, none⟩ = some (.int .i64 p1) ∧ w.cell? ⟨gp, 2, none⟩ = some (.int .i64 p2)) ∧ w.cell? ⟨x4, 2, none⟩ = some (.int .i64 dd)
set_option maxRecDepth 100000 in
set_option maxHeartbeats 16000000 in
theorem given_in (a : Option Addr) (len cap : Nat) (hb : len ≤ 1048576) (w : World) (hcode : CodeOk w w.heap.size a len) (ht : Q.Tab w) :
    Calls Tryd.prog 4 #[.slice a len cap] w fun e w' => e = .returned (.bool true) ∧ Below w.heap.size w w' := by
  have HC : Hid (CodeOk w w.heap.size a len) := hcode
  have HT : Hid (Q.Tab w) := ht
  clear hcode ht
  go_enter Tryd.func4, Tryd.ntmps4
  go_wp2_with fail
  refine (big5 a len cap (by omega) _).mono ?_
  rintro e w1 ⟨rfl, rfl⟩
  rw [decide_eq_false (by omega)]
  go_wp2_with fail
  refine (places7 w1.heap.size a len cap _ HC.out (Nat.le_refl _)).mono ?_
  rintro e w2 ⟨gp, cp, p0, p1, p2, p3, rfl, h0, h1, h2, h3, hgp, k0, k1, k2, k3, hrest⟩
  have HB2 : Hid (Below w1.heap.size w1 w2) := hrest.2
  have HP2 : Hid (w2.cell? ⟨gp, 0, none⟩ = some (.int .i64 p0) ∧ w2.cell? ⟨gp, 1, none⟩ = some (.int .i64 p1) ∧ w2.cell? ⟨gp, 2, none⟩ = some (.int .i64 p2)) := ⟨k0, k1, k2⟩
  have hgp2 : gp < w2.heap.size := hrest.1
  obtain ⟨c0, hc0⟩ : ∃ c : Int, p0.tmod 5 = c := ⟨_, rfl⟩
  have hc0b : 0 ≤ c0 ∧ c0 ≤ 4 := by rw [Int.tmod_eq_emod_of_nonneg h0.1] at hc0; omega
  obtain ⟨c2, hc2⟩ : ∃ c : Int, p2.tmod 60 = c := ⟨_, rfl⟩
  have hc2b : 0 ≤ c2 ∧ c2 ≤ 59 := by rw [Int.tmod_eq_emod_of_nonneg h2.1] at hc2; omega
  obtain ⟨dd, hdd⟩ : ∃ dd : Int, 1 + c0 = dd := ⟨_, rfl⟩
  obtain ⟨vv, hvv⟩ : ∃ vv : Int, 1 + c2 = vv := ⟨_, rfl⟩
  obtain ⟨m3, hm3⟩ : ∃ m3 : Int, 3 * dd = m3 := ⟨_, rfl⟩
  obtain ⟨c1, hc1⟩ : ∃ c : Int, p1.tmod m3 = c := ⟨_, rfl⟩
  have hc1b : 0 ≤ c1 ∧ c1 < m3 := by
    rw [Int.tmod_eq_emod_of_nonneg h1.1] at hc1
    rw [← hc1]
    exact ⟨Int.emod_nonneg _ (by omega), Int.emod_lt_of_pos _ (by omega)⟩
  obtain ⟨nn, hnn⟩ : ∃ nn : Int, 1 + c1 = nn := ⟨_, rfl⟩
  have q0 : IntKind.i64.wrap (1 + c0) = dd := (wrap_in (by omega) (by omega)).trans hdd
  have q2 : IntKind.i64.wrap (1 + c2) = vv := (wrap_in (by omega) (by omega)).trans hvv
  have q3 : IntKind.i64.wrap (3 * dd) = m3 := (wrap_in (by omega) (by omega)).trans hm3
  have q1 : IntKind.i64.wrap (1 + c1) = nn := (wrap_in (by omega) (by omega)).trans hnn
  have hddb : 1 ≤ dd ∧ dd ≤ 5 := by omega
  have hvvb : 1 ≤ vv ∧ vv ≤ 60 := by omega
  have hnnb : 1 ≤ nn ∧ nn ≤ 3 * dd := by omega
  have hm0 : ¬ m3 = 0 := by omega
  have e0 : p0 % 5 = c0 := by rw [← Int.tmod_eq_emod_of_nonneg h0.1]; exact hc0
  have e2 : p2 % 60 = c2 := by rw [← Int.tmod_eq_emod_of_nonneg h2.1]; exact hc2
  have e1 : p1 % m3 = c1 := by rw [← Int.tmod_eq_emod_of_nonneg h1.1]; exact hc1
  have HV : Hid (VolR nn dd vv) := by show VolR nn dd vv; unfold VolR; omega
  have HOR : Hid (OrdR 1 nn dd vv) := by show OrdR 1 nn dd vv; unfold OrdR; omega
  clear h0 h1 h2 h3 hgp k0 k1 k2 k3 hrest hc0b hc2b hc1b hdd hvv hm3 hnn
  go_upto_region 4 with fail
  go_cut [4] (fun v4 wd => ∃ X4 : Nat, v4 = .pointer (some ⟨X4, 0, none⟩) ∧ gp < X4 ∧ w1.heap.size ≤ X4 ∧ Hid (wd.heap[X4]? = some (.cells #[.int .i64 1, .int .i64 0, .int .i64 dd, .int .i64 vv] 27)) ∧ Hid (wd.cell? ⟨gp, 0, none⟩ = some (.int .i64 p0) ∧ wd.cell? ⟨gp, 1, none⟩ = some (.int .i64 p1) ∧ wd.cell? ⟨gp, 2, none⟩ = some (.int .i64 p2)) ∧ Hid (Below w1.heap.size w1 wd))
  case first =>
    have HK : SPd w2.drew gp p0 p1 p2 := HP2.out
    refine wp_region_held_drew (S := fun w' => SPd w' gp p0 p1 p2) (by kernel_rfl) HK (fun hHeld => ?_)
    obtain ⟨v0, hv0⟩ : ∃ v0, w2.drew = v0 := ⟨_, rfl⟩
    have HBv : Hid (Below w1.heap.size w1 v0) := by rw [← hv0]; exact HB2.out.drew
    have hgv : gp < v0.heap.size := by rw [← hv0]; exact hgp2
    rw [hv0] at HK hHeld ⊢
    clear hv0 HP2 HB2
    refine wpAnyH_take (i := 0) (v := ?_) rfl (by kernel_rfl) (by kernel_rfl) (by kernel_rfl) (fun _ _ _ h => h) (Or.inl ⟨by rfl, ?_⟩) (by assumption) ?_
    rotate_left
    · intro w_ hSw; (try dsimp only at hSw); clear hSw; (try clear hHeld); go_simp <;> with_reducible rfl
    try simp only [Act.put, List.setIfInBounds_toArray, List.set_cons_zero, List.set_cons_succ, List.getElem_toArray, List.getElem_cons_zero, List.getElem_cons_succ]
    refine wpAnyH_take (i := 1) (v := ?_) rfl (by kernel_rfl) (by kernel_rfl) (by kernel_rfl) (fun _ _ _ h => h) (Or.inl ⟨by rfl, ?_⟩) (by assumption) ?_
    rotate_left
    · intro w_ hSw; (try dsimp only at hSw); clear hSw; (try clear hHeld); go_simp <;> with_reducible rfl
    try simp only [Act.put, List.setIfInBounds_toArray, List.set_cons_zero, List.set_cons_succ, List.getElem_toArray, List.getElem_cons_zero, List.getElem_cons_succ]
    refine wpAnyH_take (i := 2) (v := ?_) rfl (by kernel_rfl) (by kernel_rfl) (by kernel_rfl) (fun _ _ _ h => h) (Or.inl ⟨by rfl, ?_⟩) (by assumption) ?_
    rotate_left
    · intro w_ hSw; (try dsimp only at hSw); have f0 := hSw.1; clear hSw; (try clear hHeld); go_simp <;> with_reducible rfl
    try simp only [Act.put, List.setIfInBounds_toArray, List.set_cons_zero, List.set_cons_succ, List.getElem_toArray, List.getElem_cons_zero, List.getElem_cons_succ]
    refine wpAnyH_take (i := 3) (v := ?_) rfl (by kernel_rfl) (by kernel_rfl) (by kernel_rfl) (fun _ _ _ h => h) (Or.inl ⟨by rfl, ?_⟩) (by assumption) ?_
    rotate_left
    · intro w_ hSw; (try dsimp only at hSw); clear hSw; (try clear hHeld); go_simp <;> with_reducible rfl
    try simp only [Act.put, List.setIfInBounds_toArray, List.set_cons_zero, List.set_cons_succ, List.getElem_toArray, List.getElem_cons_zero, List.getElem_cons_succ]
    refine wpAnyH_take (i := 4) (v := ?_) rfl (by kernel_rfl) (by kernel_rfl) (by kernel_rfl) (fun _ _ _ h => h) (Or.inl ⟨by rfl, ?_⟩) (by assumption) ?_
    rotate_left
    · intro w_ hSw; (try dsimp only at hSw); clear hSw; (try clear hHeld); go_simp <;> with_reducible rfl
    try simp only [Act.put, List.setIfInBounds_toArray, List.set_cons_zero, List.set_cons_succ, List.getElem_toArray, List.getElem_cons_zero, List.getElem_cons_succ]
    refine wpAnyH_take (i := 5) (v := ?_) rfl (by kernel_rfl) (by kernel_rfl) (by kernel_rfl) (fun _ _ _ h => h) (Or.inl ⟨by rfl, ?_⟩) (by assumption) ?_
    rotate_left
    · intro w_ hSw; (try dsimp only at hSw); clear hSw; (try clear hHeld); go_simp <;> with_reducible rfl
    try simp only [Act.put, List.setIfInBounds_toArray, List.set_cons_zero, List.set_cons_succ, List.getElem_toArray, List.getElem_cons_zero, List.getElem_cons_succ]
    refine wpAnyH_take (i := 6) (v := ?_) rfl (by kernel_rfl) (by kernel_rfl) (by kernel_rfl) (fun _ _ _ h => h) (Or.inl ⟨by rfl, ?_⟩) (by assumption) ?_
    rotate_left
    · intro w_ hSw; (try dsimp only at hSw); clear hSw; (try clear hHeld); go_simp <;> with_reducible rfl
    try simp only [Act.put, List.setIfInBounds_toArray, List.set_cons_zero, List.set_cons_succ, List.getElem_toArray, List.getElem_cons_zero, List.getElem_cons_succ]
    refine wpAnyH_take (i := 7) (v := ?_) rfl (by kernel_rfl) (by kernel_rfl) (by kernel_rfl) (fun _ _ _ h => h) (Or.inl ⟨by rfl, ?_⟩) (by assumption) ?_
    rotate_left
    · intro w_ hSw; (try dsimp only at hSw); have f0 := hSw.2.2; clear hSw; (try clear hHeld); go_simp <;> with_reducible rfl
    try simp only [Act.put, List.setIfInBounds_toArray, List.set_cons_zero, List.set_cons_succ, List.getElem_toArray, List.getElem_cons_zero, List.getElem_cons_succ]
    refine wpAnyH_take (i := 8) (v := ?_) rfl (by kernel_rfl) (by kernel_rfl) (by kernel_rfl) (fun _ _ _ h => h) (Or.inl ⟨by rfl, ?_⟩) (by assumption) ?_
    rotate_left
    · intro w_ hSw; (try dsimp only at hSw); clear hSw; (try clear hHeld); go_simp <;> with_reducible rfl
    try simp only [Act.put, List.setIfInBounds_toArray, List.set_cons_zero, List.set_cons_succ, List.getElem_toArray, List.getElem_cons_zero, List.getElem_cons_succ]
    refine wpAnyH_take (i := 9) (v := ?_) rfl (by kernel_rfl) (by kernel_rfl) (by kernel_rfl) (fun _ _ _ h => h) (Or.inl ⟨by rfl, ?_⟩) (by assumption) ?_
    rotate_left
    · intro w_ hSw; (try dsimp only at hSw); clear hSw; (try clear hHeld); go_simp <;> with_reducible rfl
    try simp only [Act.put, List.setIfInBounds_toArray, List.set_cons_zero, List.set_cons_succ, List.getElem_toArray, List.getElem_cons_zero, List.getElem_cons_succ]
    refine wpAnyH_take (i := 10) (v := ?_) rfl (by kernel_rfl) (by kernel_rfl) (by kernel_rfl) (fun _ _ _ h => h) (Or.inl ⟨by rfl, ?_⟩) (by assumption) ?_
    rotate_left
    · intro w_ hSw; (try dsimp only at hSw); clear hSw; (try clear hHeld); go_simp <;> with_reducible rfl
    try simp only [Act.put, List.setIfInBounds_toArray, List.set_cons_zero, List.set_cons_succ, List.getElem_toArray, List.getElem_cons_zero, List.getElem_cons_succ]
    refine wpAnyH_ready (rs := [11]) (by kernel_rfl) (by simp) ?_
    refine (AllReadyH.cons rfl (fun J hJ => ?_) AllReadyH.nil)
    go_simp
    have HX : Hid ((v0.alloc (.cells #[.int .i64 0, .int .i64 0, .int .i64 0, .int .i64 0] 27)).heap[v0.heap.size]? = some (.cells #[.int .i64 0, .int .i64 0, .int .i64 0, .int .i64 0] 27)) := heap_new v0 _
    have HPv : Hid ((v0.alloc (.cells #[.int .i64 0, .int .i64 0, .int .i64 0, .int .i64 0] 27)).cell? ⟨gp, 0, none⟩ = some (.int .i64 p0) ∧ (v0.alloc (.cells #[.int .i64 0, .int .i64 0, .int .i64 0, .int .i64 0] 27)).cell? ⟨gp, 1, none⟩ = some (.int .i64 p1) ∧ (v0.alloc (.cells #[.int .i64 0, .int .i64 0, .int .i64 0, .int .i64 0] 27)).cell? ⟨gp, 2, none⟩ = some (.int .i64 p2)) := pl_on HK (alM _ _)
    have HBw : Hid (Below w1.heap.size w1 (v0.alloc (.cells #[.int .i64 0, .int .i64 0, .int .i64 0, .int .i64 0] 27))) := bel_on (Nat.le_refl _) HBv.out (alM _ _)
    have hsz : w1.heap.size ≤ v0.heap.size := HBv.out.size
    refine hJ.out _ _ HPv.out (fun hHeld => ?_)
    clear hJ J HK HBv
    try simp only [Act.put, List.setIfInBounds_toArray, List.set_cons_zero, List.set_cons_succ, List.getElem_toArray, List.getElem_cons_zero, List.getElem_cons_succ]
    generalize v0.alloc (.cells #[.int .i64 0, .int .i64 0, .int .i64 0, .int .i64 0] 27) = v1 at *
    generalize v0.heap.size = X4 at *
    refine wpAnyH_ready (rs := [12]) (by kernel_rfl) (by simp) ?_
    refine (AllReadyH.cons rfl (fun J hJ => ?_) AllReadyH.nil)
    refine storeR_any rfl rfl _ _ _ rfl X4 #[.int .i64 1, .int .i64 0, .int .i64 dd, .int .i64 vv] rfl rfl (by kernel_rfl) (by kernel_rfl) HX.out rfl ?_
    intro v2 hput
    have HX2 : Hid (v2.heap[X4]? = some (.cells #[.int .i64 1, .int .i64 0, .int .i64 dd, .int .i64 vv] 27)) := hput.1
    have HP3 : Hid (v2.cell? ⟨gp, 0, none⟩ = some (.int .i64 p0) ∧ v2.cell? ⟨gp, 1, none⟩ = some (.int .i64 p1) ∧ v2.cell? ⟨gp, 2, none⟩ = some (.int .i64 p2)) := pl_put HPv.out hput (by omega)
    have HB3 : Hid (Below w1.heap.size w1 v2) := hput.2.2.2 _ _ hsz HBw.out
    clear hput HX HPv HBw
    refine hJ.out _ _ HP3.out (fun hHeld => ?_)
    clear hJ J
    try simp only [Act.put, List.setIfInBounds_toArray, List.set_cons_zero, List.set_cons_succ, List.getElem_toArray, List.getElem_cons_zero, List.getElem_cons_succ]
    clear hHeld
    refine wpAnyH_done (by kernel_rfl) ?_ _
    (try go_wp2_with fail)
    go_meet
    exact ⟨X4, rfl, hgv, hsz, HX2, HP3, HB3⟩
  case rest =>
    obtain ⟨X4, rfl, hg4, hw4, HX, HP, HB⟩ := hcut
    clear HP2 HB2 hgp2
    obtain ⟨w3, hw3⟩ : ∃ w3, wc = w3 := ⟨_, rfl⟩
    rw [hw3] at HX HP HB ⊢
    clear hw3
    go_upto_region 5 with fail
    go_cut [] (fun wd => Hid (wd.heap[X4]? = some (.cells #[.int .i64 1, .int .i64 nn, .int .i64 dd, .int .i64 vv] 27)) ∧ Hid (Below w1.heap.size w1 wd))
    case first =>
      have HK : SPe w3.drew gp X4 p0 p1 p2 dd := ⟨HP.out, by show w3.cell? _ = _; exact (box4_cells HX.out).1.2.2.1⟩
      refine wp_region_held_drew (S := fun w' => SPe w' gp X4 p0 p1 p2 dd) (by kernel_rfl) HK (fun hHeld => ?_)
      obtain ⟨v0, hv0⟩ : ∃ v0, w3.drew = v0 := ⟨_, rfl⟩
      have HBv : Hid (Below w1.heap.size w1 v0) := by rw [← hv0]; exact HB.out.drew
      have HXv : Hid (v0.heap[X4]? = some (.cells #[.int .i64 1, .int .i64 0, .int .i64 dd, .int .i64 vv] 27)) := by rw [← hv0]; exact HX.out
      rw [hv0] at HK hHeld ⊢
      clear hv0 HX HP HB
      refine wpAnyH_take (i := 0) (v := ?_) rfl (by kernel_rfl) (by kernel_rfl) (by kernel_rfl) (fun _ _ _ h => h) (Or.inl ⟨by rfl, ?_⟩) (by assumption) ?_
      rotate_left
      · intro w_ hSw; (try dsimp only at hSw); clear hSw; (try clear hHeld); go_simp <;> with_reducible rfl
      try simp only [Act.put, List.setIfInBounds_toArray, List.set_cons_zero, List.set_cons_succ, List.getElem_toArray, List.getElem_cons_zero, List.getElem_cons_succ]
      refine wpAnyH_take (i := 1) (v := ?_) rfl (by kernel_rfl) (by kernel_rfl) (by kernel_rfl) (fun _ _ _ h => h) (Or.inl ⟨by rfl, ?_⟩) (by assumption) ?_
      rotate_left
      · intro w_ hSw; (try dsimp only at hSw); clear hSw; (try clear hHeld); go_simp <;> with_reducible rfl
      try simp only [Act.put, List.setIfInBounds_toArray, List.set_cons_zero, List.set_cons_succ, List.getElem_toArray, List.getElem_cons_zero, List.getElem_cons_succ]
      refine wpAnyH_take (i := 2) (v := ?_) rfl (by kernel_rfl) (by kernel_rfl) (by kernel_rfl) (fun _ _ _ h => h) (Or.inl ⟨by rfl, ?_⟩) (by assumption) ?_
      rotate_left
      · intro w_ hSw; (try dsimp only at hSw); have f0 := hSw.1.2.1; clear hSw; (try clear hHeld); go_simp <;> with_reducible rfl
      try simp only [Act.put, List.setIfInBounds_toArray, List.set_cons_zero, List.set_cons_succ, List.getElem_toArray, List.getElem_cons_zero, List.getElem_cons_succ]
      refine wpAnyH_take (i := 3) (v := ?_) rfl (by kernel_rfl) (by kernel_rfl) (by kernel_rfl) (fun _ _ _ h => h) (Or.inl ⟨by rfl, ?_⟩) (by assumption) ?_
      rotate_left
      · intro w_ hSw; (try dsimp only at hSw); clear hSw; (try clear hHeld); go_simp <;> with_reducible rfl
      try simp only [Act.put, List.setIfInBounds_toArray, List.set_cons_zero, List.set_cons_succ, List.getElem_toArray, List.getElem_cons_zero, List.getElem_cons_succ]
      refine wpAnyH_take (i := 4) (v := ?_) rfl (by kernel_rfl) (by kernel_rfl) (by kernel_rfl) (fun _ _ _ h => h) (Or.inl ⟨by rfl, ?_⟩) (by assumption) ?_
      rotate_left
      · intro w_ hSw; (try dsimp only at hSw); have f0 := hSw.2; clear hSw; (try clear hHeld); go_simp <;> with_reducible rfl
      try simp only [Act.put, List.setIfInBounds_toArray, List.set_cons_zero, List.set_cons_succ, List.getElem_toArray, List.getElem_cons_zero, List.getElem_cons_succ]
      refine wpAnyH_take (i := 5) (v := ?_) rfl (by kernel_rfl) (by kernel_rfl) (by kernel_rfl) (fun _ _ _ h => h) (Or.inl ⟨by rfl, ?_⟩) (by assumption) ?_
      rotate_left
      · intro w_ hSw; (try dsimp only at hSw); clear hSw; (try clear hHeld); go_simp <;> with_reducible rfl
      try simp only [Act.put, List.setIfInBounds_toArray, List.set_cons_zero, List.set_cons_succ, List.getElem_toArray, List.getElem_cons_zero, List.getElem_cons_succ]
      refine wpAnyH_take (i := 6) (v := ?_) rfl (by kernel_rfl) (by kernel_rfl) (by kernel_rfl) (fun _ _ _ h => h) (Or.inl ⟨by rfl, ?_⟩) (by assumption) ?_
      rotate_left
      · intro w_ hSw; (try dsimp only at hSw); clear hSw; (try clear hHeld); go_simp <;> with_reducible rfl
      try simp only [Act.put, List.setIfInBounds_toArray, List.set_cons_zero, List.set_cons_succ, List.getElem_toArray, List.getElem_cons_zero, List.getElem_cons_succ]
      refine wpAnyH_take (i := 7) (v := ?_) rfl (by kernel_rfl) (by kernel_rfl) (by kernel_rfl) (fun _ _ _ h => h) (Or.inl ⟨by rfl, ?_⟩) (by assumption) ?_
      rotate_left
      · intro w_ hSw; (try dsimp only at hSw); clear hSw; (try clear hHeld); go_simp <;> with_reducible rfl
      try simp only [Act.put, List.setIfInBounds_toArray, List.set_cons_zero, List.set_cons_succ, List.getElem_toArray, List.getElem_cons_zero, List.getElem_cons_succ]
      refine wpAnyH_take (i := 8) (v := ?_) rfl (by kernel_rfl) (by kernel_rfl) (by kernel_rfl) (fun _ _ _ h => h) (Or.inl ⟨by rfl, ?_⟩) (by assumption) ?_
      rotate_left
      · intro w_ hSw; (try dsimp only at hSw); clear hSw; (try clear hHeld); go_simp <;> with_reducible rfl
      try simp only [Act.put, List.setIfInBounds_toArray, List.set_cons_zero, List.set_cons_succ, List.getElem_toArray, List.getElem_cons_zero, List.getElem_cons_succ]
      refine wpAnyH_ready (rs := [9]) (by kernel_rfl) (by simp) ?_
      refine (AllReadyH.cons rfl (fun J hJ => ?_) AllReadyH.nil)
      refine storeN_any rfl rfl _ _ _ rfl rfl X4 1 nn rfl rfl HXv.out (by simp) ?_
      intro v2 hput
      have HX2 : Hid (v2.heap[X4]? = some (.cells #[.int .i64 1, .int .i64 nn, .int .i64 dd, .int .i64 vv] 27)) := hput.1
      have HB3 : Hid (Below w1.heap.size w1 v2) := hput.2.2.2 _ _ hw4 HBv.out
      have HK2 : SPe v2 gp X4 p0 p1 p2 dd := ⟨pl_put HK.1 hput (by omega), (box4_cells HX2.out).1.2.2.1⟩
      clear hput HXv HBv HK
      refine hJ.out _ _ HK2 (fun hHeld => ?_)
      clear hJ J HK2
      try simp only [Act.put, List.setIfInBounds_toArray, List.set_cons_zero, List.set_cons_succ, List.getElem_toArray, List.getElem_cons_zero, List.getElem_cons_succ]
      clear hHeld
      refine wpAnyH_done (by kernel_rfl) ?_ _
      (try go_wp2_with fail)
      go_meet
      exact ⟨HX2, HB3⟩
    case rest =>
      obtain ⟨HX4, HB4⟩ := hcut
      clear HX HP HB
      obtain ⟨w4, hw4'⟩ : ∃ w4, wc = w4 := ⟨_, rfl⟩
      rw [hw4'] at HX4 HB4 ⊢
      clear hw4' q0 q1 q2 q3 e0 e1 e2 hc0 hc1 hc2 hm0
      have o4 := box4_cells HX4.out
      obtain ⟨L, hL⟩ : ∃ L, ordT 1 nn dd vv = L := ⟨_, rfl⟩
      have HL : Hid (ordT 1 nn dd vv = L) := hL
      have KT : Hid (∀ w, Calls Tryd.prog 8 #[.agg #[.int .i64 1, .int .i64 nn, .int .i64 dd, .int .i64 vv]] w fun e w' => e = .returned (.tuple #[.string L, .bool true]) ∧ Below w.heap.size w w') := fun w => by rw [← hL]; exact textS 1 nn dd vv HOR.out w
      clear hL
      go_wp2_with fail
      refine Calls.mono (KT.out _) ?_
      rintro e w5 ⟨rfl, hbc⟩
      have HX5 : Hid (w5.heap[X4]? = some (.cells #[.int .i64 1, .int .i64 nn, .int .i64 dd, .int .i64 vv] 27)) := row_on HX4.out hbc
      have HB5 : Hid (Below w1.heap.size w1 w5) := bel_on (Nat.le_refl _) HB4.out hbc
      clear hbc HX4 HB4 o4 KT
      obtain ⟨B, hB⟩ : ∃ B, w5.heap.size = B := ⟨_, rfl⟩
      have hXB : X4 < B := by rw [← hB]; exact row_lt HX5.out
      have HO6 : Hid (OwnI3 (w5.alloc (.cells #[.int .i64 0, .string ⟨#[]⟩, .string L] 44)) B B 1 1 (givT nn dd vv 0)) := by
        have h := RowZ.ownI3 (one_rowZ w5 0 ⟨#[]⟩ L) (Nat.le_of_eq hB.symm) (by unfold maxLen; simp)
        rw [hB, ← HL.out] at h
        rw [← HL.out]
        exact h
      have HX6 : Hid ((w5.alloc (.cells #[.int .i64 0, .string ⟨#[]⟩, .string L] 44)).heap[X4]? = some (.cells #[.int .i64 1, .int .i64 nn, .int .i64 dd, .int .i64 vv] 27)) := row_on HX5.out (alM _ _)
      have HB6 : Hid (Below w1.heap.size w1 (w5.alloc (.cells #[.int .i64 0, .string ⟨#[]⟩, .string L] 44))) := bel_on (Nat.le_refl _) HB5.out (alM _ _)
      clear HX5 HB5
      go_upto_region 8 with fail
      (try rw [hB])
      generalize w5.alloc (.cells #[.int .i64 0, .string ⟨#[]⟩, .string L] 44) = w6 at *
      clear hB
      go_wp2_with fail
      go_loopg [7, 8] 149 (fun gk s i wr => ∃ (j q g c : Nat), j + gk = 149 ∧ Hid (q = 1 + j) ∧ s = .slice (some ⟨g, 0, none⟩) q c ∧ i = .int .i64 j ∧ Hid (OwnI3 wr B g q c (givT nn dd vv j)) ∧ Hid (wr.heap[X4]? = some (.cells #[.int .i64 1, .int .i64 nn, .int .i64 dd, .int .i64 vv] 27)) ∧ Hid (Below w1.heap.size w1 wr))
      case atStart => exact ⟨0, 1, B, 1, by omega, rfl, rfl, rfl, HO6, HX6, HB6⟩
      case round =>
        clear HO6 HX6 HB6
        obtain ⟨j, q, g, c, hj, HQ, rfl, rfl, HO, HX, HB⟩ := hrel
        have hq10 : q ≤ 150 := by have := HQ.out; omega
        by_cases hlt : j < 149
        · have j0 : (0 : Int) ≤ j := by omega
          have j1 : (j : Int) < 149 := by omega
          have qj : IntKind.i64.wrap ((j : Int) + 1) = (j : Int) + 1 := wrap_in (by omega) (by omega)
          have hBr : B ≤ wr.heap.size := Nat.le_of_lt (Nat.lt_of_le_of_lt HO.out.ge HO.out.lt)
          have HO4 : Hid (OwnI3 (wr.alloc (.cells #[.int .i64 0, .string ⟨#[]⟩, .string ⟨#[]⟩] 44)) B g q c (givT nn dd vv j)) := HO.out.on (alM _ _)
          have HX4 : Hid ((wr.alloc (.cells #[.int .i64 0, .string ⟨#[]⟩, .string ⟨#[]⟩] 44)).heap[X4]? = some (.cells #[.int .i64 1, .int .i64 nn, .int .i64 dd, .int .i64 vv] 27)) := row_on HX.out (alM _ _)
          have HB4 : Hid (Below w1.heap.size w1 (wr.alloc (.cells #[.int .i64 0, .string ⟨#[]⟩, .string ⟨#[]⟩] 44))) := bel_on (Nat.le_refl _) HB.out (alM _ _)
          have HR4 : Hid (RdZ (wr.alloc (.cells #[.int .i64 0, .string ⟨#[]⟩, .string ⟨#[]⟩] 44)) (some ⟨wr.heap.size, 0, none⟩) [(0, ⟨#[]⟩, ⟨#[]⟩)]) := (one_rowZ wr 0 ⟨#[]⟩ ⟨#[]⟩).rd
          clear HO HX HB
          go_upto_region 11 with fail
          go_wp2_with (refine listZ rfl (.tmp 49) (.tmp 51) rfl B g q c (givT nn dd vv j) (some ⟨wr.heap.size, 0, none⟩) 1 1 [(0, ⟨#[]⟩, ⟨#[]⟩)] rfl rfl HO4.out rfl (fun e => by cases e) HR4.out (by omega) (by simp; omega) ?_)
          intro g5 c5 w5' hown hgr
          have HO5 : Hid (OwnI3 w5' B g5 (q + 1) c5 (givT nn dd vv (j + 1))) := by rw [giv_t3] at hown; exact hown
          have HX5 : Hid (w5'.heap[X4]? = some (.cells #[.int .i64 1, .int .i64 nn, .int .i64 dd, .int .i64 vv] 27)) := row_grown HX4.out hgr (fun e => by have := Option.some.inj e; have := HO4.out.ge; omega)
          have HB5 : Hid (Below w1.heap.size w1 w5') := HB4.out.grown hgr HB4.out.size (fun m hm => by have := Option.some.inj hm; have := HO4.out.ge; omega)
          have HQ2 : Hid (q + 1 = 1 + (j + 1)) := by have := HQ.out; show _ = _; omega
          clear hown hgr HO4 HX4 HB4 HR4 HQ
          generalize q + 1 = q5 at *
          go_wp2
          go_roundg (gk - 1)
          case measure => omega
          case rel => exact ⟨j + 1, q5, g5, c5, by omega, HQ2, rfl, by go_num, HO5, HX5, HB5⟩
        · obtain rfl : j = 149 := by omega
          obtain ⟨⟨pd, ld, ald, md, td, rfd⟩, hDd⟩ : ∃ y, runD newD ((givL nn dd vv 149).map (·.i)) = y := ⟨_, rfl⟩
          have hgs := giv_run HV.out 149 (by omega)
          rw [← givL_map, hDd] at hgs
          have hge := giv_end HV.out hgs
          obtain rfl : ald = 0 := hgs.al
          obtain rfl : rfd = 0 := hgs.rf
          have HOKD : Hid (Dv.ok ⟨pd, ld, 0, md, td, 0⟩) := hgs.ok
          have HSUM : Hid (sumT td = pd.g) := hgs.sum.symm
          have HTLN : Hid (td.length = 150) := hgs.len
          have HTB : Hid (∀ x ∈ td, 0 ≤ x.1 ∧ x.1 ≤ 30) := by
            have h := run_tk ((givL nn dd vv 149).map (·.i)) newD_ok (fun i hi => by
              obtain ⟨y, hy, rfl⟩ := List.mem_map.1 hi
              exact (givL_ok HOR.out 149 y hy).ic) (fun x hx => by cases hx)
            rw [hDd] at h
            exact h
          have HDd : Hid (runD newD ((givL nn dd vv 149).map (·.i)) = ⟨pd, ld, 0, md, td, 0⟩) := hDd
          dsimp only at hge
          have HGE : Hid (0 ≤ pd.g ∧ pd.g ≤ vv + 3 ∧ (vv * dd ≤ 140 * nn → vv ≤ pd.g ∧ pd.l = 0)) := hge
          clear hgs hge hDd
          have HR7 : Hid (RdZ wr (some ⟨g, 0, none⟩) ((givL nn dd vv 149).map Inp.t3)) := by have h := HO.out.rd; unfold givT at h; exact h
          go_wp2_with fail
          refine (runI (givL nn dd vv 149) (givL_ok HOR.out 149) (some ⟨g, 0, none⟩) q c (by rw [givL_len]; have := HQ.out; omega) (by omega) pd ld 0 md td 0 HDd.out _ (Q.tab_below HT.out HB.out) HR7.out).mono ?_
          rintro e w7 ⟨gd, nd, cd, gt, tn, ct, rfl, hG, hU, hbc⟩
          obtain ⟨X9, hX9⟩ : ∃ b, w7.heap.size = b := ⟨_, rfl⟩
          have hl9 : X4 < X9 := by have h1 := row_lt HX.out; have h2 := hbc.size; omega
          have HG8 : Hid (G.OwnN (w7.alloc (.cells #[.int .i64 0, .int .i64 0, .int .i64 0, .int .i64 0, .int .i64 0, .int .i64 0, .int .i64 0, .int .i64 0, .slice none 0 0, .int .i64 0, .int .i64 0, .bool false, .int .i64 0, .int .i64 0, .string ⟨#[]⟩, .slice none 0 0, .int .i64 0] 40)) wr.heap.size gd nd cd ld) := G.OwnN.on hG (alM _ _)
          have HU8 : Hid (OwnU (w7.alloc (.cells #[.int .i64 0, .int .i64 0, .int .i64 0, .int .i64 0, .int .i64 0, .int .i64 0, .int .i64 0, .int .i64 0, .slice none 0 0, .int .i64 0, .int .i64 0, .bool false, .int .i64 0, .int .i64 0, .string ⟨#[]⟩, .slice none 0 0, .int .i64 0] 40)) wr.heap.size gt tn ct td) := hU.on (alM _ _)
          have HX8 : Hid ((w7.alloc (.cells #[.int .i64 0, .int .i64 0, .int .i64 0, .int .i64 0, .int .i64 0, .int .i64 0, .int .i64 0, .int .i64 0, .slice none 0 0, .int .i64 0, .int .i64 0, .bool false, .int .i64 0, .int .i64 0, .string ⟨#[]⟩, .slice none 0 0, .int .i64 0] 40)).heap[X4]? = some (.cells #[.int .i64 1, .int .i64 nn, .int .i64 dd, .int .i64 vv] 27)) := row_on (row_on HX.out hbc) (alM _ _)
          have HB8 : Hid (Below w1.heap.size w1 (w7.alloc (.cells #[.int .i64 0, .int .i64 0, .int .i64 0, .int .i64 0, .int .i64 0, .int .i64 0, .int .i64 0, .int .i64 0, .slice none 0 0, .int .i64 0, .int .i64 0, .bool false, .int .i64 0, .int .i64 0, .string ⟨#[]⟩, .slice none 0 0, .int .i64 0] 40))) := bel_on (Nat.le_refl _) (bel_on (Nat.le_refl _) HB.out hbc) (alM _ _)
          have HN8 : Hid ((w7.alloc (.cells #[.int .i64 0, .int .i64 0, .int .i64 0, .int .i64 0, .int .i64 0, .int .i64 0, .int .i64 0, .int .i64 0, .slice none 0 0, .int .i64 0, .int .i64 0, .bool false, .int .i64 0, .int .i64 0, .string ⟨#[]⟩, .slice none 0 0, .int .i64 0] 40)).heap[X9]? = some (.cells #[.int .i64 0, .int .i64 0, .int .i64 0, .int .i64 0, .int .i64 0, .int .i64 0, .int .i64 0, .int .i64 0, .slice none 0 0, .int .i64 0, .int .i64 0, .bool false, .int .i64 0, .int .i64 0, .string ⟨#[]⟩, .slice none 0 0, .int .i64 0] 40)) := by rw [← hX9]; exact heap_new w7 _
          clear hG hU hbc HX HB HO HR7 HDd
          go_wp2_with (refine listStoreD rfl rfl _ _ _ rfl rfl X9 #[.int .i64 pd.s, .int .i64 pd.n, .int .i64 pd.d, .int .i64 pd.r, .int .i64 pd.l, .int .i64 pd.b, .int .i64 pd.g, .int .i64 pd.k, .slice (some ⟨gd, 0, none⟩) nd cd, .int .i64 0, .int .i64 md.a, .bool md.b, .int .i64 md.n, .int .i64 md.d, .string ⟨md.s.toArray⟩, .slice (some ⟨gt, 0, none⟩) tn ct, .int .i64 0] rfl rfl rfl (by kernel_rfl) HN8.out rfl ?_)
          intro w9 hput
          have HX9 : Hid (w9.heap[X9]? = some (.cells #[.int .i64 pd.s, .int .i64 pd.n, .int .i64 pd.d, .int .i64 pd.r, .int .i64 pd.l, .int .i64 pd.b, .int .i64 pd.g, .int .i64 pd.k, .slice (some ⟨gd, 0, none⟩) nd cd, .int .i64 0, .int .i64 md.a, .bool md.b, .int .i64 md.n, .int .i64 md.d, .string ⟨md.s.toArray⟩, .slice (some ⟨gt, 0, none⟩) tn ct, .int .i64 0] 40)) := hput.1
          have HO9 : Hid (w9.heap[X4]? = some (.cells #[.int .i64 1, .int .i64 nn, .int .i64 dd, .int .i64 vv] 27)) := hput.far HX8.out (by omega)
          have HG9 : Hid (G.OwnN w9 wr.heap.size gd nd cd ld) := own_putM HG8.out hput (own_ne HG8.out HN8.out (by decide))
          have HU9 : Hid (OwnU w9 wr.heap.size gt tn ct td) := own_putM HU8.out hput (own_ne HU8.out HN8.out (by decide))
          have HB9 : Hid (Below w1.heap.size w1 w9) := hput.2.2.2 _ _ (by omega) HB8.out
          clear hput HX8 HG8 HU8 HB8 HN8 hX9
          have htn : tn = 150 := by have h := HU9.out.len; rw [HTLN.out] at h; omega
          have HTN : Hid (tn = 150) := htn
          have HNL : Hid (ld.length = nd) := G.OwnN.len HG9.out
          have hnd : nd ≤ 9 := by have h := HNL.out; have h2 := HOKD.out.g.1; dsimp only at h2; omega
          have HRG : Hid (G.Rd w9 (some ⟨gd, 0, none⟩) ld) := HG9.out.rd
          have HRT : Hid (RdY w9 (some ⟨gt, 0, none⟩) td) := HU9.out.rd
          have htn2 : tn ≤ 150 := by omega
          clear htn
          have KD1 : Hid (∀ w', Below w9.heap.size w9 w' → Calls Tryd.prog 16 #[.agg #[.int .i64 pd.s, .int .i64 pd.n, .int .i64 pd.d, .int .i64 pd.r, .int .i64 pd.l, .int .i64 pd.b, .int .i64 pd.g, .int .i64 pd.k, .slice (some ⟨gd, 0, none⟩) nd cd, .int .i64 0, .int .i64 md.a, .bool md.b, .int .i64 md.n, .int .i64 md.d, .string ⟨md.s.toArray⟩, .slice (some ⟨gt, 0, none⟩) tn ct, .int .i64 0]] w' fun e w2 => e = .returned (.bool true) ∧ Below w'.heap.size w' w2) := fun w' hb' =>
            deviceokI pd (some ⟨gd, 0, none⟩) nd cd ld 0 md (some ⟨gt, 0, none⟩) tn ct 0 true true true ⟨fun _ => HOKD.out.p, fun _ => rfl⟩ ⟨fun _ => HOKD.out.g, fun _ => rfl⟩ HOKD.out.m.1 true (by unfold devB; rw [decide_eq_true (by omega)]; rfl) HNL.out (by omega) (by omega) w' (HRG.out.keep hb' (Nat.le_refl _))
          have KD2 : Hid (∀ w', Below w9.heap.size w9 w' → Calls Tryd.prog 17 #[.slice (some ⟨gt, 0, none⟩) tn ct] w' fun e w2 => e = .returned (.int .i64 pd.g) ∧ w2 = w') := fun w' hb' =>
            totSd (some ⟨gt, 0, none⟩) td tn ct (by rw [HTLN.out, HTN.out]) (by omega) HTB.out pd.g HSUM.out w' (HRT.out.keep hb' (Nat.le_refl _))
          clear HOKD HSUM HTB HG9 HU9 HNL HRG HRT
          obtain ⟨A, hA⟩ : ∃ A : Int, vv * dd = A := ⟨_, rfl⟩
          have hAb : 0 ≤ A ∧ A ≤ 300 := by
            rw [← hA]
            have h1 := Int.mul_le_mul hvvb.2 hddb.2 (by omega) (by omega)
            have h2 := Int.mul_nonneg (show 0 ≤ vv by omega) (show 0 ≤ dd by omega)
            omega
          have qA : IntKind.i64.wrap (vv * dd) = A := (wrap_in (by omega) (by omega)).trans hA
          have qA' : wrap64 (vv * dd) = A := (wrap64_in (by omega) (by omega)).trans hA
          obtain ⟨C, hC⟩ : ∃ C : Int, 140 * nn = C := ⟨_, rfl⟩
          have qC : IntKind.i64.wrap (140 * nn) = C := (wrap_in (by omega) (by omega)).trans hC
          have qC' : wrap64 (140 * nn) = C := (wrap64_in (by omega) (by omega)).trans hC
          obtain ⟨ex, hex⟩ : ∃ ex : Int, pd.g - vv = ex := ⟨_, rfl⟩
          have hgb := HGE.out.1
          have hgc := HGE.out.2.1
          have qe : IntKind.i64.wrap (pd.g - vv) = ex := (wrap_in (by omega) (by omega)).trans hex
          obtain ⟨v3, hv3⟩ : ∃ v3 : Int, vv + 3 = v3 := ⟨_, rfl⟩
          have qv : IntKind.i64.wrap (vv + 3) = v3 := (wrap_in (by omega) (by omega)).trans hv3
          have hle : pd.g ≤ v3 := by omega
          have h400 : vv ≤ 400 := by omega
          have o9 := box4_cells HO9.out
          have c9 := box17_cells HX9.out
          have HEX : Hid (A ≤ C → 0 ≤ ex ∧ ex ≤ 3 ∧ pd.l = 0) := by
            intro h
            have h2 := HGE.out.2.2 (by rw [hA, hC]; exact h)
            exact ⟨by omega, by omega, h2.2⟩
          clear hA hC hex hv3 hgb hgc HGE HV hvvb hddb hnnb hAb
          by_cases hdone : A ≤ C
          · obtain ⟨x0, x1, x2⟩ := HEX.out hdone
            have HXL : Hid (pd.l = 0) := x2
            clear x2 HEX
            go_upto_region 15 with fail
            clear o9 c9
            have HK : KD w9 w9.drew X9 X4 (.cells #[.int .i64 pd.s, .int .i64 pd.n, .int .i64 pd.d, .int .i64 pd.r, .int .i64 pd.l, .int .i64 pd.b, .int .i64 pd.g, .int .i64 pd.k, .slice (some ⟨gd, 0, none⟩) nd cd, .int .i64 0, .int .i64 md.a, .bool md.b, .int .i64 md.n, .int .i64 md.d, .string ⟨md.s.toArray⟩, .slice (some ⟨gt, 0, none⟩) tn ct, .int .i64 0] 40) (.cells #[.int .i64 1, .int .i64 nn, .int .i64 dd, .int .i64 vv] 27) := ⟨HX9.out, HO9.out, (Below.refl _ _).drew⟩
            refine wp_region_held_drew (S := fun w' => KD w9 w' X9 X4 (.cells #[.int .i64 pd.s, .int .i64 pd.n, .int .i64 pd.d, .int .i64 pd.r, .int .i64 pd.l, .int .i64 pd.b, .int .i64 pd.g, .int .i64 pd.k, .slice (some ⟨gd, 0, none⟩) nd cd, .int .i64 0, .int .i64 md.a, .bool md.b, .int .i64 md.n, .int .i64 md.d, .string ⟨md.s.toArray⟩, .slice (some ⟨gt, 0, none⟩) tn ct, .int .i64 0] 40) (.cells #[.int .i64 1, .int .i64 nn, .int .i64 dd, .int .i64 vv] 27)) (by kernel_rfl) HK (fun hHeld => ?_)
            obtain ⟨v0, hv0⟩ : ∃ v0, w9.drew = v0 := ⟨_, rfl⟩
            rw [hv0] at HK hHeld ⊢
            clear hv0
            refine wpAnyH_take (i := 0) (v := ?_) rfl (by kernel_rfl) (by kernel_rfl) (by kernel_rfl) (fun _ _ _ h => h) (Or.inl ⟨by rfl, ?_⟩) (by assumption) ?_
            rotate_left
            · intro w_ hSw; (try dsimp only at hSw); clear hSw; (try clear hHeld); go_simp <;> with_reducible rfl
            try simp only [Act.put, List.setIfInBounds_toArray, List.set_cons_zero, List.set_cons_succ, List.getElem_toArray, List.getElem_cons_zero, List.getElem_cons_succ]
            refine wpAnyH_take (i := 1) (v := ?_) rfl (by kernel_rfl) (by kernel_rfl) (by kernel_rfl) (fun _ _ _ h => h) (Or.inl ⟨by rfl, ?_⟩) (by assumption) ?_
            rotate_left
            · intro w_ hSw; (try dsimp only at hSw); clear hSw; (try clear hHeld); go_simp <;> with_reducible rfl
            try simp only [Act.put, List.setIfInBounds_toArray, List.set_cons_zero, List.set_cons_succ, List.getElem_toArray, List.getElem_cons_zero, List.getElem_cons_succ]
            refine wpAnyH_take (i := 2) (v := .agg #[.int .i64 pd.s, .int .i64 pd.n, .int .i64 pd.d, .int .i64 pd.r, .int .i64 pd.l, .int .i64 pd.b, .int .i64 pd.g, .int .i64 pd.k, .slice (some ⟨gd, 0, none⟩) nd cd, .int .i64 0, .int .i64 md.a, .bool md.b, .int .i64 md.n, .int .i64 md.d, .string ⟨md.s.toArray⟩, .slice (some ⟨gt, 0, none⟩) tn ct, .int .i64 0]) rfl (by kernel_rfl) (by kernel_rfl) (by kernel_rfl) (fun _ _ _ h => h) (Or.inl ⟨by rfl, fun w_ hSw => exec_load_row _ _ rfl X9 rfl _ _ _ hSw.1 (by kernel_rfl) (by kernel_rfl)⟩) (by assumption) ?_
            try simp only [Act.put, List.setIfInBounds_toArray, List.set_cons_zero, List.set_cons_succ, List.getElem_toArray, List.getElem_cons_zero, List.getElem_cons_succ]
            refine wpAnyH_ready (rs := [3]) (by kernel_rfl) (by simp) ?_
            refine (AllReadyH.cons rfl (fun J hJ => ?_) AllReadyH.nil)
            go_simp
            go_at_call 16
            refine (KD1.out _ HK.2.2).mono ?_
            rintro e v1 ⟨rfl, hbc⟩
            have HK1 := HK.on hbc
            clear hbc HK
            go_wp2_with fail
            refine hJ.out _ _ HK1 (fun hHeld => ?_)
            clear hJ J
            try simp only [Act.put, List.setIfInBounds_toArray, List.set_cons_zero, List.set_cons_succ, List.getElem_toArray, List.getElem_cons_zero, List.getElem_cons_succ]
            refine wpAnyH_take (i := 4) (v := ?_) rfl (by kernel_rfl) (by kernel_rfl) (by kernel_rfl) (fun _ _ _ h => h) (Or.inl ⟨by rfl, ?_⟩) (by assumption) ?_
            rotate_left
            · intro w_ hSw; (try dsimp only at hSw); clear hSw; (try clear hHeld); go_simp <;> with_reducible rfl
            try simp only [Act.put, List.setIfInBounds_toArray, List.set_cons_zero, List.set_cons_succ, List.getElem_toArray, List.getElem_cons_zero, List.getElem_cons_succ]
            refine wpAnyH_take (i := 5) (v := ?_) rfl (by kernel_rfl) (by kernel_rfl) (by kernel_rfl) (fun _ _ _ h => h) (Or.inl ⟨by rfl, ?_⟩) (by assumption) ?_
            rotate_left
            · intro w_ hSw; (try dsimp only at hSw); clear hSw; (try clear hHeld); go_simp <;> with_reducible rfl
            try simp only [Act.put, List.setIfInBounds_toArray, List.set_cons_zero, List.set_cons_succ, List.getElem_toArray, List.getElem_cons_zero, List.getElem_cons_succ]
            refine wpAnyH_take (i := 6) (v := ?_) rfl (by kernel_rfl) (by kernel_rfl) (by kernel_rfl) (fun _ _ _ h => h) (Or.inl ⟨by rfl, ?_⟩) (by assumption) ?_
            rotate_left
            · intro w_ hSw; (try dsimp only at hSw); clear hSw; (try clear hHeld); go_simp <;> with_reducible rfl
            try simp only [Act.put, List.setIfInBounds_toArray, List.set_cons_zero, List.set_cons_succ, List.getElem_toArray, List.getElem_cons_zero, List.getElem_cons_succ]
            refine wpAnyH_take (i := 7) (v := ?_) rfl (by kernel_rfl) (by kernel_rfl) (by kernel_rfl) (fun _ _ _ h => h) (Or.inl ⟨by rfl, ?_⟩) (by assumption) ?_
            rotate_left
            · intro w_ hSw; (try dsimp only at hSw); clear hSw; (try clear hHeld); go_simp <;> with_reducible rfl
            try simp only [Act.put, List.setIfInBounds_toArray, List.set_cons_zero, List.set_cons_succ, List.getElem_toArray, List.getElem_cons_zero, List.getElem_cons_succ]
            refine wpAnyH_take (i := 8) (v := ?_) rfl (by kernel_rfl) (by kernel_rfl) (by kernel_rfl) (fun _ _ _ h => h) (Or.inl ⟨by rfl, ?_⟩) (by assumption) ?_
            rotate_left
            · intro w_ hSw; (try dsimp only at hSw); clear hSw; (try clear hHeld); go_simp <;> with_reducible rfl
            try simp only [Act.put, List.setIfInBounds_toArray, List.set_cons_zero, List.set_cons_succ, List.getElem_toArray, List.getElem_cons_zero, List.getElem_cons_succ]
            refine wpAnyH_take (i := 9) (v := ?_) rfl (by kernel_rfl) (by kernel_rfl) (by kernel_rfl) (fun _ _ _ h => h) (Or.inl ⟨by rfl, ?_⟩) (by assumption) ?_
            rotate_left
            · intro w_ hSw; (try dsimp only at hSw); clear hSw; (try clear hHeld); go_simp <;> with_reducible rfl
            try simp only [Act.put, List.setIfInBounds_toArray, List.set_cons_zero, List.set_cons_succ, List.getElem_toArray, List.getElem_cons_zero, List.getElem_cons_succ]
            refine wpAnyH_take (i := 10) (v := ?_) rfl (by kernel_rfl) (by kernel_rfl) (by kernel_rfl) (fun _ _ _ h => h) (Or.inl ⟨by rfl, ?_⟩) (by assumption) ?_
            rotate_left
            · intro w_ hSw; (try dsimp only at hSw); clear hSw; (try clear hHeld); go_simp <;> with_reducible rfl
            try simp only [Act.put, List.setIfInBounds_toArray, List.set_cons_zero, List.set_cons_succ, List.getElem_toArray, List.getElem_cons_zero, List.getElem_cons_succ]
            refine wpAnyH_take (i := 11) (v := ?_) rfl (by kernel_rfl) (by kernel_rfl) (by kernel_rfl) (fun _ _ _ h => h) (Or.inl ⟨by rfl, ?_⟩) (by assumption) ?_
            rotate_left
            · intro w_ hSw; (try dsimp only at hSw); clear hSw; (try clear hHeld); go_simp <;> with_reducible rfl
            try simp only [Act.put, List.setIfInBounds_toArray, List.set_cons_zero, List.set_cons_succ, List.getElem_toArray, List.getElem_cons_zero, List.getElem_cons_succ]
            refine wpAnyH_take (i := 12) (v := ?_) rfl (by kernel_rfl) (by kernel_rfl) (by kernel_rfl) (fun _ _ _ h => h) (Or.inl ⟨by rfl, ?_⟩) (by assumption) ?_
            rotate_left
            · intro w_ hSw; (try dsimp only at hSw); clear hSw; (try clear hHeld); go_simp <;> with_reducible rfl
            try simp only [Act.put, List.setIfInBounds_toArray, List.set_cons_zero, List.set_cons_succ, List.getElem_toArray, List.getElem_cons_zero, List.getElem_cons_succ]
            refine wpAnyH_take (i := 13) (v := ?_) rfl (by kernel_rfl) (by kernel_rfl) (by kernel_rfl) (fun _ _ _ h => h) (Or.inl ⟨by rfl, ?_⟩) (by assumption) ?_
            rotate_left
            · intro w_ hSw; (try dsimp only at hSw); clear hSw; (try clear hHeld); go_simp <;> with_reducible rfl
            try simp only [Act.put, List.setIfInBounds_toArray, List.set_cons_zero, List.set_cons_succ, List.getElem_toArray, List.getElem_cons_zero, List.getElem_cons_succ]
            refine wpAnyH_take (i := 14) (v := ?_) rfl (by kernel_rfl) (by kernel_rfl) (by kernel_rfl) (fun _ _ _ h => h) (Or.inl ⟨by rfl, ?_⟩) (by assumption) ?_
            rotate_left
            · intro w_ hSw; (try dsimp only at hSw); clear hSw; (try clear hHeld); go_simp <;> with_reducible rfl
            try simp only [Act.put, List.setIfInBounds_toArray, List.set_cons_zero, List.set_cons_succ, List.getElem_toArray, List.getElem_cons_zero, List.getElem_cons_succ]
            refine wpAnyH_take (i := 15) (v := ?_) rfl (by kernel_rfl) (by kernel_rfl) (by kernel_rfl) (fun _ _ _ h => h) (Or.inl ⟨by rfl, ?_⟩) (by assumption) ?_
            rotate_left
            · intro w_ hSw; (try dsimp only at hSw); clear hSw; (try clear hHeld); go_simp <;> with_reducible rfl
            try simp only [Act.put, List.setIfInBounds_toArray, List.set_cons_zero, List.set_cons_succ, List.getElem_toArray, List.getElem_cons_zero, List.getElem_cons_succ]
            refine wpAnyH_take (i := 16) (v := ?_) rfl (by kernel_rfl) (by kernel_rfl) (by kernel_rfl) (fun _ _ _ h => h) (Or.inl ⟨by rfl, ?_⟩) (by assumption) ?_
            rotate_left
            · intro w_ hSw; (try dsimp only at hSw); clear hSw; (try clear hHeld); go_simp <;> with_reducible rfl
            try simp only [Act.put, List.setIfInBounds_toArray, List.set_cons_zero, List.set_cons_succ, List.getElem_toArray, List.getElem_cons_zero, List.getElem_cons_succ]
            refine wpAnyH_take (i := 17) (v := ?_) rfl (by kernel_rfl) (by kernel_rfl) (by kernel_rfl) (fun _ _ _ h => h) (Or.inl ⟨by rfl, ?_⟩) (by assumption) ?_
            rotate_left
            · intro w_ hSw; (try dsimp only at hSw); clear hSw; (try clear hHeld); go_simp <;> with_reducible rfl
            try simp only [Act.put, List.setIfInBounds_toArray, List.set_cons_zero, List.set_cons_succ, List.getElem_toArray, List.getElem_cons_zero, List.getElem_cons_succ]
            refine wpAnyH_take (i := 18) (v := ?_) rfl (by kernel_rfl) (by kernel_rfl) (by kernel_rfl) (fun _ _ _ h => h) (Or.inl ⟨by rfl, ?_⟩) (by assumption) ?_
            rotate_left
            · intro w_ hSw; (try dsimp only at hSw); have f0 := box17_cells hSw.1; rw [HXL.out] at f0; clear hSw; (try clear hHeld); go_simp <;> with_reducible rfl
            try simp only [Act.put, List.setIfInBounds_toArray, List.set_cons_zero, List.set_cons_succ, List.getElem_toArray, List.getElem_cons_zero, List.getElem_cons_succ]
            refine wpAnyH_take (i := 19) (v := ?_) rfl (by kernel_rfl) (by kernel_rfl) (by kernel_rfl) (fun _ _ _ h => h) (Or.inl ⟨by rfl, ?_⟩) (by assumption) ?_
            rotate_left
            · intro w_ hSw; (try dsimp only at hSw); clear hSw; (try clear hHeld); go_simp <;> with_reducible rfl
            try simp only [Act.put, List.setIfInBounds_toArray, List.set_cons_zero, List.set_cons_succ, List.getElem_toArray, List.getElem_cons_zero, List.getElem_cons_succ]
            refine wpAnyH_take (i := 20) (v := ?_) rfl (by kernel_rfl) (by kernel_rfl) (by kernel_rfl) (fun _ _ _ h => h) (Or.inl ⟨by rfl, ?_⟩) (by assumption) ?_
            rotate_left
            · intro w_ hSw; (try dsimp only at hSw); clear hSw; (try clear hHeld); go_simp <;> with_reducible rfl
            try simp only [Act.put, List.setIfInBounds_toArray, List.set_cons_zero, List.set_cons_succ, List.getElem_toArray, List.getElem_cons_zero, List.getElem_cons_succ]
            refine wpAnyH_take (i := 21) (v := ?_) rfl (by kernel_rfl) (by kernel_rfl) (by kernel_rfl) (fun _ _ _ h => h) (Or.inl ⟨by rfl, ?_⟩) (by assumption) ?_
            rotate_left
            · intro w_ hSw; (try dsimp only at hSw); clear hSw; (try clear hHeld); go_simp <;> with_reducible rfl
            try simp only [Act.put, List.setIfInBounds_toArray, List.set_cons_zero, List.set_cons_succ, List.getElem_toArray, List.getElem_cons_zero, List.getElem_cons_succ]
            refine wpAnyH_take (i := 22) (v := ?_) rfl (by kernel_rfl) (by kernel_rfl) (by kernel_rfl) (fun _ _ _ h => h) (Or.inl ⟨by rfl, ?_⟩) (by assumption) ?_
            rotate_left
            · intro w_ hSw; (try dsimp only at hSw); clear hSw; (try clear hHeld); go_simp <;> with_reducible rfl
            try simp only [Act.put, List.setIfInBounds_toArray, List.set_cons_zero, List.set_cons_succ, List.getElem_toArray, List.getElem_cons_zero, List.getElem_cons_succ]
            refine wpAnyH_take (i := 23) (v := ?_) rfl (by kernel_rfl) (by kernel_rfl) (by kernel_rfl) (fun _ _ _ h => h) (Or.inl ⟨by rfl, ?_⟩) (by assumption) ?_
            rotate_left
            · intro w_ hSw; (try dsimp only at hSw); clear hSw; (try clear hHeld); go_simp <;> with_reducible rfl
            try simp only [Act.put, List.setIfInBounds_toArray, List.set_cons_zero, List.set_cons_succ, List.getElem_toArray, List.getElem_cons_zero, List.getElem_cons_succ]
            refine wpAnyH_take (i := 24) (v := ?_) rfl (by kernel_rfl) (by kernel_rfl) (by kernel_rfl) (fun _ _ _ h => h) (Or.inl ⟨by rfl, ?_⟩) (by assumption) ?_
            rotate_left
            · intro w_ hSw; (try dsimp only at hSw); clear hSw; (try clear hHeld); go_simp <;> with_reducible rfl
            try simp only [Act.put, List.setIfInBounds_toArray, List.set_cons_zero, List.set_cons_succ, List.getElem_toArray, List.getElem_cons_zero, List.getElem_cons_succ]
            refine wpAnyH_take (i := 25) (v := ?_) rfl (by kernel_rfl) (by kernel_rfl) (by kernel_rfl) (fun _ _ _ h => h) (Or.inl ⟨by rfl, ?_⟩) (by assumption) ?_
            rotate_left
            · intro w_ hSw; (try dsimp only at hSw); clear hSw; (try clear hHeld); go_simp <;> with_reducible rfl
            try simp only [Act.put, List.setIfInBounds_toArray, List.set_cons_zero, List.set_cons_succ, List.getElem_toArray, List.getElem_cons_zero, List.getElem_cons_succ]
            refine wpAnyH_take (i := 26) (v := ?_) rfl (by kernel_rfl) (by kernel_rfl) (by kernel_rfl) (fun _ _ _ h => h) (Or.inl ⟨by rfl, ?_⟩) (by assumption) ?_
            rotate_left
            · intro w_ hSw; (try dsimp only at hSw); have f0 := box17_cells hSw.1; clear hSw; (try clear hHeld); go_simp <;> with_reducible rfl
            try simp only [Act.put, List.setIfInBounds_toArray, List.set_cons_zero, List.set_cons_succ, List.getElem_toArray, List.getElem_cons_zero, List.getElem_cons_succ]
            refine wpAnyH_take (i := 27) (v := ?_) rfl (by kernel_rfl) (by kernel_rfl) (by kernel_rfl) (fun _ _ _ h => h) (Or.inl ⟨by rfl, ?_⟩) (by assumption) ?_
            rotate_left
            · intro w_ hSw; (try dsimp only at hSw); clear hSw; (try clear hHeld); go_simp <;> with_reducible rfl
            try simp only [Act.put, List.setIfInBounds_toArray, List.set_cons_zero, List.set_cons_succ, List.getElem_toArray, List.getElem_cons_zero, List.getElem_cons_succ]
            refine wpAnyH_take (i := 28) (v := ?_) rfl (by kernel_rfl) (by kernel_rfl) (by kernel_rfl) (fun _ _ _ h => h) (Or.inl ⟨by rfl, ?_⟩) (by assumption) ?_
            rotate_left
            · intro w_ hSw; (try dsimp only at hSw); have f0 := box4_cells hSw.2.1; clear hSw; (try clear hHeld); go_simp <;> with_reducible rfl
            try simp only [Act.put, List.setIfInBounds_toArray, List.set_cons_zero, List.set_cons_succ, List.getElem_toArray, List.getElem_cons_zero, List.getElem_cons_succ]
            refine wpAnyH_take (i := 29) (v := ?_) rfl (by kernel_rfl) (by kernel_rfl) (by kernel_rfl) (fun _ _ _ h => h) (Or.inl ⟨by rfl, ?_⟩) (by assumption) ?_
            rotate_left
            · intro w_ hSw; (try dsimp only at hSw); clear hSw; (try clear hHeld); go_simp <;> with_reducible rfl
            try simp only [Act.put, List.setIfInBounds_toArray, List.set_cons_zero, List.set_cons_succ, List.getElem_toArray, List.getElem_cons_zero, List.getElem_cons_succ]
            refine wpAnyH_take (i := 30) (v := ?_) rfl (by kernel_rfl) (by kernel_rfl) (by kernel_rfl) (fun _ _ _ h => h) (Or.inl ⟨by rfl, ?_⟩) (by assumption) ?_
            rotate_left
            · intro w_ hSw; (try dsimp only at hSw); clear hSw; (try clear hHeld); go_simp <;> with_reducible rfl
            try simp only [Act.put, List.setIfInBounds_toArray, List.set_cons_zero, List.set_cons_succ, List.getElem_toArray, List.getElem_cons_zero, List.getElem_cons_succ]
            refine wpAnyH_take (i := 31) (v := ?_) rfl (by kernel_rfl) (by kernel_rfl) (by kernel_rfl) (fun _ _ _ h => h) (Or.inl ⟨by rfl, ?_⟩) (by assumption) ?_
            rotate_left
            · intro w_ hSw; (try dsimp only at hSw); clear hSw; (try clear hHeld); go_simp <;> with_reducible rfl
            try simp only [Act.put, List.setIfInBounds_toArray, List.set_cons_zero, List.set_cons_succ, List.getElem_toArray, List.getElem_cons_zero, List.getElem_cons_succ]
            refine wpAnyH_take (i := 32) (v := ?_) rfl (by kernel_rfl) (by kernel_rfl) (by kernel_rfl) (fun _ _ _ h => h) (Or.inl ⟨by rfl, ?_⟩) (by assumption) ?_
            rotate_left
            · intro w_ hSw; (try dsimp only at hSw); clear hSw; (try clear hHeld); go_simp <;> with_reducible rfl
            try simp only [Act.put, List.setIfInBounds_toArray, List.set_cons_zero, List.set_cons_succ, List.getElem_toArray, List.getElem_cons_zero, List.getElem_cons_succ]
            refine wpAnyH_take (i := 33) (v := ?_) rfl (by kernel_rfl) (by kernel_rfl) (by kernel_rfl) (fun _ _ _ h => h) (Or.inl ⟨by rfl, ?_⟩) (by assumption) ?_
            rotate_left
            · intro w_ hSw; (try dsimp only at hSw); clear hSw; (try clear hHeld); go_simp <;> with_reducible rfl
            try simp only [Act.put, List.setIfInBounds_toArray, List.set_cons_zero, List.set_cons_succ, List.getElem_toArray, List.getElem_cons_zero, List.getElem_cons_succ]
            refine wpAnyH_take (i := 34) (v := ?_) rfl (by kernel_rfl) (by kernel_rfl) (by kernel_rfl) (fun _ _ _ h => h) (Or.inl ⟨by rfl, ?_⟩) (by assumption) ?_
            rotate_left
            · intro w_ hSw; (try dsimp only at hSw); clear hSw; (try clear hHeld); go_simp <;> with_reducible rfl
            try simp only [Act.put, List.setIfInBounds_toArray, List.set_cons_zero, List.set_cons_succ, List.getElem_toArray, List.getElem_cons_zero, List.getElem_cons_succ]
            refine wpAnyH_take (i := 35) (v := ?_) rfl (by kernel_rfl) (by kernel_rfl) (by kernel_rfl) (fun _ _ _ h => h) (Or.inl ⟨by rfl, ?_⟩) (by assumption) ?_
            rotate_left
            · intro w_ hSw; (try dsimp only at hSw); have f0 := box17_cells hSw.1; clear hSw; (try clear hHeld); go_simp <;> with_reducible rfl
            try simp only [Act.put, List.setIfInBounds_toArray, List.set_cons_zero, List.set_cons_succ, List.getElem_toArray, List.getElem_cons_zero, List.getElem_cons_succ]
            refine wpAnyH_take (i := 36) (v := ?_) rfl (by kernel_rfl) (by kernel_rfl) (by kernel_rfl) (fun _ _ _ h => h) (Or.inl ⟨by rfl, ?_⟩) (by assumption) ?_
            rotate_left
            · intro w_ hSw; (try dsimp only at hSw); clear hSw; (try clear hHeld); go_simp <;> with_reducible rfl
            try simp only [Act.put, List.setIfInBounds_toArray, List.set_cons_zero, List.set_cons_succ, List.getElem_toArray, List.getElem_cons_zero, List.getElem_cons_succ]
            refine wpAnyH_take (i := 37) (v := ?_) rfl (by kernel_rfl) (by kernel_rfl) (by kernel_rfl) (fun _ _ _ h => h) (Or.inl ⟨by rfl, ?_⟩) (by assumption) ?_
            rotate_left
            · intro w_ hSw; (try dsimp only at hSw); have f0 := box17_cells hSw.1; clear hSw; (try clear hHeld); go_simp <;> with_reducible rfl
            try simp only [Act.put, List.setIfInBounds_toArray, List.set_cons_zero, List.set_cons_succ, List.getElem_toArray, List.getElem_cons_zero, List.getElem_cons_succ]
            refine wpAnyH_ready (rs := [38]) (by kernel_rfl) (by simp) ?_
            refine (AllReadyH.cons rfl (fun J hJ => ?_) AllReadyH.nil)
            go_simp
            go_at_call 17
            refine (KD2.out _ HK1.2.2).mono ?_
            rintro e v2 ⟨rfl, rfl⟩
            go_wp2_with fail
            refine hJ.out _ _ HK1 (fun hHeld => ?_)
            clear hJ J
            try simp only [Act.put, List.setIfInBounds_toArray, List.set_cons_zero, List.set_cons_succ, List.getElem_toArray, List.getElem_cons_zero, List.getElem_cons_succ]
            refine wpAnyH_take (i := 39) (v := ?_) rfl (by kernel_rfl) (by kernel_rfl) (by kernel_rfl) (fun _ _ _ h => h) (Or.inl ⟨by rfl, ?_⟩) (by assumption) ?_
            rotate_left
            · intro w_ hSw; (try dsimp only at hSw); clear hSw; (try clear hHeld); go_simp <;> with_reducible rfl
            try simp only [Act.put, List.setIfInBounds_toArray, List.set_cons_zero, List.set_cons_succ, List.getElem_toArray, List.getElem_cons_zero, List.getElem_cons_succ]
            refine wpAnyH_take (i := 40) (v := ?_) rfl (by kernel_rfl) (by kernel_rfl) (by kernel_rfl) (fun _ _ _ h => h) (Or.inl ⟨by rfl, ?_⟩) (by assumption) ?_
            rotate_left
            · intro w_ hSw; (try dsimp only at hSw); clear hSw; (try clear hHeld); go_simp <;> with_reducible rfl
            try simp only [Act.put, List.setIfInBounds_toArray, List.set_cons_zero, List.set_cons_succ, List.getElem_toArray, List.getElem_cons_zero, List.getElem_cons_succ]
            refine wpAnyH_take (i := 41) (v := ?_) rfl (by kernel_rfl) (by kernel_rfl) (by kernel_rfl) (fun _ _ _ h => h) (Or.inl ⟨by rfl, ?_⟩) (by assumption) ?_
            rotate_left
            · intro w_ hSw; (try dsimp only at hSw); clear hSw; (try clear hHeld); go_simp <;> with_reducible rfl
            try simp only [Act.put, List.setIfInBounds_toArray, List.set_cons_zero, List.set_cons_succ, List.getElem_toArray, List.getElem_cons_zero, List.getElem_cons_succ]
            refine wpAnyH_take (i := 42) (v := ?_) rfl (by kernel_rfl) (by kernel_rfl) (by kernel_rfl) (fun _ _ _ h => h) (Or.inl ⟨by rfl, ?_⟩) (by assumption) ?_
            rotate_left
            · intro w_ hSw; (try dsimp only at hSw); clear hSw; (try clear hHeld); go_simp <;> with_reducible rfl
            try simp only [Act.put, List.setIfInBounds_toArray, List.set_cons_zero, List.set_cons_succ, List.getElem_toArray, List.getElem_cons_zero, List.getElem_cons_succ]
            refine wpAnyH_take (i := 43) (v := ?_) rfl (by kernel_rfl) (by kernel_rfl) (by kernel_rfl) (fun _ _ _ h => h) (Or.inl ⟨by rfl, ?_⟩) (by assumption) ?_
            rotate_left
            · intro w_ hSw; (try dsimp only at hSw); have f0 := box17_cells hSw.1; clear hSw; (try clear hHeld); go_simp <;> with_reducible rfl
            try simp only [Act.put, List.setIfInBounds_toArray, List.set_cons_zero, List.set_cons_succ, List.getElem_toArray, List.getElem_cons_zero, List.getElem_cons_succ]
            refine wpAnyH_take (i := 44) (v := ?_) rfl (by kernel_rfl) (by kernel_rfl) (by kernel_rfl) (fun _ _ _ h => h) (Or.inl ⟨by rfl, ?_⟩) (by assumption) ?_
            rotate_left
            · intro w_ hSw; (try dsimp only at hSw); clear hSw; (try clear hHeld); go_simp <;> with_reducible rfl
            try simp only [Act.put, List.setIfInBounds_toArray, List.set_cons_zero, List.set_cons_succ, List.getElem_toArray, List.getElem_cons_zero, List.getElem_cons_succ]
            refine wpAnyH_take (i := 45) (v := ?_) rfl (by kernel_rfl) (by kernel_rfl) (by kernel_rfl) (fun _ _ _ h => h) (Or.inl ⟨by rfl, ?_⟩) (by assumption) ?_
            rotate_left
            · intro w_ hSw; (try dsimp only at hSw); clear hSw; (try clear hHeld); go_simp <;> with_reducible rfl
            try simp only [Act.put, List.setIfInBounds_toArray, List.set_cons_zero, List.set_cons_succ, List.getElem_toArray, List.getElem_cons_zero, List.getElem_cons_succ]
            refine wpAnyH_take (i := 46) (v := ?_) rfl (by kernel_rfl) (by kernel_rfl) (by kernel_rfl) (fun _ _ _ h => h) (Or.inl ⟨by rfl, ?_⟩) (by assumption) ?_
            rotate_left
            · intro w_ hSw; (try dsimp only at hSw); clear hSw; (try clear hHeld); go_simp <;> with_reducible rfl
            try simp only [Act.put, List.setIfInBounds_toArray, List.set_cons_zero, List.set_cons_succ, List.getElem_toArray, List.getElem_cons_zero, List.getElem_cons_succ]
            clear hHeld
            refine wpAnyH_done (by kernel_rfl) ?_ _
            have HBf : Hid (Below w1.heap.size w1 v2) := bel_on (Nat.le_refl _) HB9.out HK1.2.2
            go_wp2
            go_ret
            exact ⟨rfl, HBf.out⟩
          · clear HEX
            go_upto_region 15 with fail
            clear o9 c9
            have HK : KD w9 w9.drew X9 X4 (.cells #[.int .i64 pd.s, .int .i64 pd.n, .int .i64 pd.d, .int .i64 pd.r, .int .i64 pd.l, .int .i64 pd.b, .int .i64 pd.g, .int .i64 pd.k, .slice (some ⟨gd, 0, none⟩) nd cd, .int .i64 0, .int .i64 md.a, .bool md.b, .int .i64 md.n, .int .i64 md.d, .string ⟨md.s.toArray⟩, .slice (some ⟨gt, 0, none⟩) tn ct, .int .i64 0] 40) (.cells #[.int .i64 1, .int .i64 nn, .int .i64 dd, .int .i64 vv] 27) := ⟨HX9.out, HO9.out, (Below.refl _ _).drew⟩
            refine wp_region_held_drew (S := fun w' => KD w9 w' X9 X4 (.cells #[.int .i64 pd.s, .int .i64 pd.n, .int .i64 pd.d, .int .i64 pd.r, .int .i64 pd.l, .int .i64 pd.b, .int .i64 pd.g, .int .i64 pd.k, .slice (some ⟨gd, 0, none⟩) nd cd, .int .i64 0, .int .i64 md.a, .bool md.b, .int .i64 md.n, .int .i64 md.d, .string ⟨md.s.toArray⟩, .slice (some ⟨gt, 0, none⟩) tn ct, .int .i64 0] 40) (.cells #[.int .i64 1, .int .i64 nn, .int .i64 dd, .int .i64 vv] 27)) (by kernel_rfl) HK (fun hHeld => ?_)
            obtain ⟨v0, hv0⟩ : ∃ v0, w9.drew = v0 := ⟨_, rfl⟩
            rw [hv0] at HK hHeld ⊢
            clear hv0
            refine wpAnyH_take (i := 0) (v := ?_) rfl (by kernel_rfl) (by kernel_rfl) (by kernel_rfl) (fun _ _ _ h => h) (Or.inl ⟨by rfl, ?_⟩) (by assumption) ?_
            rotate_left
            · intro w_ hSw; (try dsimp only at hSw); clear hSw; (try clear hHeld); go_simp <;> with_reducible rfl
            try simp only [Act.put, List.setIfInBounds_toArray, List.set_cons_zero, List.set_cons_succ, List.getElem_toArray, List.getElem_cons_zero, List.getElem_cons_succ]
            refine wpAnyH_take (i := 1) (v := ?_) rfl (by kernel_rfl) (by kernel_rfl) (by kernel_rfl) (fun _ _ _ h => h) (Or.inl ⟨by rfl, ?_⟩) (by assumption) ?_
            rotate_left
            · intro w_ hSw; (try dsimp only at hSw); clear hSw; (try clear hHeld); go_simp <;> with_reducible rfl
            try simp only [Act.put, List.setIfInBounds_toArray, List.set_cons_zero, List.set_cons_succ, List.getElem_toArray, List.getElem_cons_zero, List.getElem_cons_succ]
            refine wpAnyH_take (i := 2) (v := .agg #[.int .i64 pd.s, .int .i64 pd.n, .int .i64 pd.d, .int .i64 pd.r, .int .i64 pd.l, .int .i64 pd.b, .int .i64 pd.g, .int .i64 pd.k, .slice (some ⟨gd, 0, none⟩) nd cd, .int .i64 0, .int .i64 md.a, .bool md.b, .int .i64 md.n, .int .i64 md.d, .string ⟨md.s.toArray⟩, .slice (some ⟨gt, 0, none⟩) tn ct, .int .i64 0]) rfl (by kernel_rfl) (by kernel_rfl) (by kernel_rfl) (fun _ _ _ h => h) (Or.inl ⟨by rfl, fun w_ hSw => exec_load_row _ _ rfl X9 rfl _ _ _ hSw.1 (by kernel_rfl) (by kernel_rfl)⟩) (by assumption) ?_
            try simp only [Act.put, List.setIfInBounds_toArray, List.set_cons_zero, List.set_cons_succ, List.getElem_toArray, List.getElem_cons_zero, List.getElem_cons_succ]
            refine wpAnyH_ready (rs := [3]) (by kernel_rfl) (by simp) ?_
            refine (AllReadyH.cons rfl (fun J hJ => ?_) AllReadyH.nil)
            go_simp
            go_at_call 16
            refine (KD1.out _ HK.2.2).mono ?_
            rintro e v1 ⟨rfl, hbc⟩
            have HK1 := HK.on hbc
            clear hbc HK
            go_wp2_with fail
            refine hJ.out _ _ HK1 (fun hHeld => ?_)
            clear hJ J
            try simp only [Act.put, List.setIfInBounds_toArray, List.set_cons_zero, List.set_cons_succ, List.getElem_toArray, List.getElem_cons_zero, List.getElem_cons_succ]
            refine wpAnyH_take (i := 4) (v := ?_) rfl (by kernel_rfl) (by kernel_rfl) (by kernel_rfl) (fun _ _ _ h => h) (Or.inl ⟨by rfl, ?_⟩) (by assumption) ?_
            rotate_left
            · intro w_ hSw; (try dsimp only at hSw); clear hSw; (try clear hHeld); go_simp <;> with_reducible rfl
            try simp only [Act.put, List.setIfInBounds_toArray, List.set_cons_zero, List.set_cons_succ, List.getElem_toArray, List.getElem_cons_zero, List.getElem_cons_succ]
            refine wpAnyH_take (i := 5) (v := ?_) rfl (by kernel_rfl) (by kernel_rfl) (by kernel_rfl) (fun _ _ _ h => h) (Or.inl ⟨by rfl, ?_⟩) (by assumption) ?_
            rotate_left
            · intro w_ hSw; (try dsimp only at hSw); clear hSw; (try clear hHeld); go_simp <;> with_reducible rfl
            try simp only [Act.put, List.setIfInBounds_toArray, List.set_cons_zero, List.set_cons_succ, List.getElem_toArray, List.getElem_cons_zero, List.getElem_cons_succ]
            refine wpAnyH_take (i := 6) (v := ?_) rfl (by kernel_rfl) (by kernel_rfl) (by kernel_rfl) (fun _ _ _ h => h) (Or.inl ⟨by rfl, ?_⟩) (by assumption) ?_
            rotate_left
            · intro w_ hSw; (try dsimp only at hSw); clear hSw; (try clear hHeld); go_simp <;> with_reducible rfl
            try simp only [Act.put, List.setIfInBounds_toArray, List.set_cons_zero, List.set_cons_succ, List.getElem_toArray, List.getElem_cons_zero, List.getElem_cons_succ]
            refine wpAnyH_take (i := 7) (v := ?_) rfl (by kernel_rfl) (by kernel_rfl) (by kernel_rfl) (fun _ _ _ h => h) (Or.inl ⟨by rfl, ?_⟩) (by assumption) ?_
            rotate_left
            · intro w_ hSw; (try dsimp only at hSw); clear hSw; (try clear hHeld); go_simp <;> with_reducible rfl
            try simp only [Act.put, List.setIfInBounds_toArray, List.set_cons_zero, List.set_cons_succ, List.getElem_toArray, List.getElem_cons_zero, List.getElem_cons_succ]
            refine wpAnyH_take (i := 8) (v := ?_) rfl (by kernel_rfl) (by kernel_rfl) (by kernel_rfl) (fun _ _ _ h => h) (Or.inl ⟨by rfl, ?_⟩) (by assumption) ?_
            rotate_left
            · intro w_ hSw; (try dsimp only at hSw); clear hSw; (try clear hHeld); go_simp <;> with_reducible rfl
            try simp only [Act.put, List.setIfInBounds_toArray, List.set_cons_zero, List.set_cons_succ, List.getElem_toArray, List.getElem_cons_zero, List.getElem_cons_succ]
            refine wpAnyH_take (i := 9) (v := undef) rfl (by kernel_rfl) (by kernel_rfl) (by kernel_rfl) (fun _ _ _ h => h) (Or.inr ⟨by rfl, rfl⟩) (by assumption) ?_
            try simp only [Act.put, List.setIfInBounds_toArray, List.set_cons_zero, List.set_cons_succ, List.getElem_toArray, List.getElem_cons_zero, List.getElem_cons_succ]
            refine wpAnyH_take (i := 10) (v := undef) rfl (by kernel_rfl) (by kernel_rfl) (by kernel_rfl) (fun _ _ _ h => h) (Or.inr ⟨by rfl, rfl⟩) (by assumption) ?_
            try simp only [Act.put, List.setIfInBounds_toArray, List.set_cons_zero, List.set_cons_succ, List.getElem_toArray, List.getElem_cons_zero, List.getElem_cons_succ]
            refine wpAnyH_take (i := 11) (v := undef) rfl (by kernel_rfl) (by kernel_rfl) (by kernel_rfl) (fun _ _ _ h => h) (Or.inr ⟨by rfl, rfl⟩) (by assumption) ?_
            try simp only [Act.put, List.setIfInBounds_toArray, List.set_cons_zero, List.set_cons_succ, List.getElem_toArray, List.getElem_cons_zero, List.getElem_cons_succ]
            refine wpAnyH_take (i := 12) (v := undef) rfl (by kernel_rfl) (by kernel_rfl) (by kernel_rfl) (fun _ _ _ h => h) (Or.inr ⟨by rfl, rfl⟩) (by assumption) ?_
            try simp only [Act.put, List.setIfInBounds_toArray, List.set_cons_zero, List.set_cons_succ, List.getElem_toArray, List.getElem_cons_zero, List.getElem_cons_succ]
            refine wpAnyH_take (i := 13) (v := undef) rfl (by kernel_rfl) (by kernel_rfl) (by kernel_rfl) (fun _ _ _ h => h) (Or.inr ⟨by rfl, rfl⟩) (by assumption) ?_
            try simp only [Act.put, List.setIfInBounds_toArray, List.set_cons_zero, List.set_cons_succ, List.getElem_toArray, List.getElem_cons_zero, List.getElem_cons_succ]
            refine wpAnyH_take (i := 14) (v := undef) rfl (by kernel_rfl) (by kernel_rfl) (by kernel_rfl) (fun _ _ _ h => h) (Or.inr ⟨by rfl, rfl⟩) (by assumption) ?_
            try simp only [Act.put, List.setIfInBounds_toArray, List.set_cons_zero, List.set_cons_succ, List.getElem_toArray, List.getElem_cons_zero, List.getElem_cons_succ]
            refine wpAnyH_take (i := 15) (v := undef) rfl (by kernel_rfl) (by kernel_rfl) (by kernel_rfl) (fun _ _ _ h => h) (Or.inr ⟨by rfl, rfl⟩) (by assumption) ?_
            try simp only [Act.put, List.setIfInBounds_toArray, List.set_cons_zero, List.set_cons_succ, List.getElem_toArray, List.getElem_cons_zero, List.getElem_cons_succ]
            refine wpAnyH_take (i := 16) (v := undef) rfl (by kernel_rfl) (by kernel_rfl) (by kernel_rfl) (fun _ _ _ h => h) (Or.inr ⟨by rfl, rfl⟩) (by assumption) ?_
            try simp only [Act.put, List.setIfInBounds_toArray, List.set_cons_zero, List.set_cons_succ, List.getElem_toArray, List.getElem_cons_zero, List.getElem_cons_succ]
            refine wpAnyH_take (i := 17) (v := undef) rfl (by kernel_rfl) (by kernel_rfl) (by kernel_rfl) (fun _ _ _ h => h) (Or.inr ⟨by rfl, rfl⟩) (by assumption) ?_
            try simp only [Act.put, List.setIfInBounds_toArray, List.set_cons_zero, List.set_cons_succ, List.getElem_toArray, List.getElem_cons_zero, List.getElem_cons_succ]
            refine wpAnyH_take (i := 18) (v := undef) rfl (by kernel_rfl) (by kernel_rfl) (by kernel_rfl) (fun _ _ _ h => h) (Or.inr ⟨by rfl, rfl⟩) (by assumption) ?_
            try simp only [Act.put, List.setIfInBounds_toArray, List.set_cons_zero, List.set_cons_succ, List.getElem_toArray, List.getElem_cons_zero, List.getElem_cons_succ]
            refine wpAnyH_take (i := 19) (v := undef) rfl (by kernel_rfl) (by kernel_rfl) (by kernel_rfl) (fun _ _ _ h => h) (Or.inr ⟨by rfl, rfl⟩) (by assumption) ?_
            try simp only [Act.put, List.setIfInBounds_toArray, List.set_cons_zero, List.set_cons_succ, List.getElem_toArray, List.getElem_cons_zero, List.getElem_cons_succ]
            refine wpAnyH_take (i := 20) (v := undef) rfl (by kernel_rfl) (by kernel_rfl) (by kernel_rfl) (fun _ _ _ h => h) (Or.inr ⟨by rfl, rfl⟩) (by assumption) ?_
            try simp only [Act.put, List.setIfInBounds_toArray, List.set_cons_zero, List.set_cons_succ, List.getElem_toArray, List.getElem_cons_zero, List.getElem_cons_succ]
            refine wpAnyH_take (i := 21) (v := ?_) rfl (by kernel_rfl) (by kernel_rfl) (by kernel_rfl) (fun _ _ _ h => h) (Or.inl ⟨by rfl, ?_⟩) (by assumption) ?_
            rotate_left
            · intro w_ hSw; (try dsimp only at hSw); clear hSw; (try clear hHeld); go_simp <;> with_reducible rfl
            try simp only [Act.put, List.setIfInBounds_toArray, List.set_cons_zero, List.set_cons_succ, List.getElem_toArray, List.getElem_cons_zero, List.getElem_cons_succ]
            refine wpAnyH_take (i := 22) (v := ?_) rfl (by kernel_rfl) (by kernel_rfl) (by kernel_rfl) (fun _ _ _ h => h) (Or.inl ⟨by rfl, ?_⟩) (by assumption) ?_
            rotate_left
            · intro w_ hSw; (try dsimp only at hSw); clear hSw; (try clear hHeld); go_simp <;> with_reducible rfl
            try simp only [Act.put, List.setIfInBounds_toArray, List.set_cons_zero, List.set_cons_succ, List.getElem_toArray, List.getElem_cons_zero, List.getElem_cons_succ]
            refine wpAnyH_take (i := 23) (v := ?_) rfl (by kernel_rfl) (by kernel_rfl) (by kernel_rfl) (fun _ _ _ h => h) (Or.inl ⟨by rfl, ?_⟩) (by assumption) ?_
            rotate_left
            · intro w_ hSw; (try dsimp only at hSw); clear hSw; (try clear hHeld); go_simp <;> with_reducible rfl
            try simp only [Act.put, List.setIfInBounds_toArray, List.set_cons_zero, List.set_cons_succ, List.getElem_toArray, List.getElem_cons_zero, List.getElem_cons_succ]
            refine wpAnyH_take (i := 24) (v := ?_) rfl (by kernel_rfl) (by kernel_rfl) (by kernel_rfl) (fun _ _ _ h => h) (Or.inl ⟨by rfl, ?_⟩) (by assumption) ?_
            rotate_left
            · intro w_ hSw; (try dsimp only at hSw); clear hSw; (try clear hHeld); go_simp <;> with_reducible rfl
            try simp only [Act.put, List.setIfInBounds_toArray, List.set_cons_zero, List.set_cons_succ, List.getElem_toArray, List.getElem_cons_zero, List.getElem_cons_succ]
            refine wpAnyH_take (i := 25) (v := ?_) rfl (by kernel_rfl) (by kernel_rfl) (by kernel_rfl) (fun _ _ _ h => h) (Or.inl ⟨by rfl, ?_⟩) (by assumption) ?_
            rotate_left
            · intro w_ hSw; (try dsimp only at hSw); clear hSw; (try clear hHeld); go_simp <;> with_reducible rfl
            try simp only [Act.put, List.setIfInBounds_toArray, List.set_cons_zero, List.set_cons_succ, List.getElem_toArray, List.getElem_cons_zero, List.getElem_cons_succ]
            refine wpAnyH_take (i := 26) (v := ?_) rfl (by kernel_rfl) (by kernel_rfl) (by kernel_rfl) (fun _ _ _ h => h) (Or.inl ⟨by rfl, ?_⟩) (by assumption) ?_
            rotate_left
            · intro w_ hSw; (try dsimp only at hSw); have f0 := box17_cells hSw.1; clear hSw; (try clear hHeld); go_simp <;> with_reducible rfl
            try simp only [Act.put, List.setIfInBounds_toArray, List.set_cons_zero, List.set_cons_succ, List.getElem_toArray, List.getElem_cons_zero, List.getElem_cons_succ]
            refine wpAnyH_take (i := 27) (v := ?_) rfl (by kernel_rfl) (by kernel_rfl) (by kernel_rfl) (fun _ _ _ h => h) (Or.inl ⟨by rfl, ?_⟩) (by assumption) ?_
            rotate_left
            · intro w_ hSw; (try dsimp only at hSw); clear hSw; (try clear hHeld); go_simp <;> with_reducible rfl
            try simp only [Act.put, List.setIfInBounds_toArray, List.set_cons_zero, List.set_cons_succ, List.getElem_toArray, List.getElem_cons_zero, List.getElem_cons_succ]
            refine wpAnyH_take (i := 28) (v := ?_) rfl (by kernel_rfl) (by kernel_rfl) (by kernel_rfl) (fun _ _ _ h => h) (Or.inl ⟨by rfl, ?_⟩) (by assumption) ?_
            rotate_left
            · intro w_ hSw; (try dsimp only at hSw); have f0 := box4_cells hSw.2.1; clear hSw; (try clear hHeld); go_simp <;> with_reducible rfl
            try simp only [Act.put, List.setIfInBounds_toArray, List.set_cons_zero, List.set_cons_succ, List.getElem_toArray, List.getElem_cons_zero, List.getElem_cons_succ]
            refine wpAnyH_take (i := 29) (v := ?_) rfl (by kernel_rfl) (by kernel_rfl) (by kernel_rfl) (fun _ _ _ h => h) (Or.inl ⟨by rfl, ?_⟩) (by assumption) ?_
            rotate_left
            · intro w_ hSw; (try dsimp only at hSw); clear hSw; (try clear hHeld); go_simp <;> with_reducible rfl
            try simp only [Act.put, List.setIfInBounds_toArray, List.set_cons_zero, List.set_cons_succ, List.getElem_toArray, List.getElem_cons_zero, List.getElem_cons_succ]
            refine wpAnyH_take (i := 30) (v := ?_) rfl (by kernel_rfl) (by kernel_rfl) (by kernel_rfl) (fun _ _ _ h => h) (Or.inl ⟨by rfl, ?_⟩) (by assumption) ?_
            rotate_left
            · intro w_ hSw; (try dsimp only at hSw); clear hSw; (try clear hHeld); go_simp <;> with_reducible rfl
            try simp only [Act.put, List.setIfInBounds_toArray, List.set_cons_zero, List.set_cons_succ, List.getElem_toArray, List.getElem_cons_zero, List.getElem_cons_succ]
            refine wpAnyH_take (i := 31) (v := ?_) rfl (by kernel_rfl) (by kernel_rfl) (by kernel_rfl) (fun _ _ _ h => h) (Or.inl ⟨by rfl, ?_⟩) (by assumption) ?_
            rotate_left
            · intro w_ hSw; (try dsimp only at hSw); clear hSw; (try clear hHeld); go_simp <;> with_reducible rfl
            try simp only [Act.put, List.setIfInBounds_toArray, List.set_cons_zero, List.set_cons_succ, List.getElem_toArray, List.getElem_cons_zero, List.getElem_cons_succ]
            refine wpAnyH_take (i := 32) (v := ?_) rfl (by kernel_rfl) (by kernel_rfl) (by kernel_rfl) (fun _ _ _ h => h) (Or.inl ⟨by rfl, ?_⟩) (by assumption) ?_
            rotate_left
            · intro w_ hSw; (try dsimp only at hSw); clear hSw; (try clear hHeld); go_simp <;> with_reducible rfl
            try simp only [Act.put, List.setIfInBounds_toArray, List.set_cons_zero, List.set_cons_succ, List.getElem_toArray, List.getElem_cons_zero, List.getElem_cons_succ]
            refine wpAnyH_take (i := 33) (v := ?_) rfl (by kernel_rfl) (by kernel_rfl) (by kernel_rfl) (fun _ _ _ h => h) (Or.inl ⟨by rfl, ?_⟩) (by assumption) ?_
            rotate_left
            · intro w_ hSw; (try dsimp only at hSw); clear hSw; (try clear hHeld); go_simp <;> with_reducible rfl
            try simp only [Act.put, List.setIfInBounds_toArray, List.set_cons_zero, List.set_cons_succ, List.getElem_toArray, List.getElem_cons_zero, List.getElem_cons_succ]
            refine wpAnyH_take (i := 34) (v := ?_) rfl (by kernel_rfl) (by kernel_rfl) (by kernel_rfl) (fun _ _ _ h => h) (Or.inl ⟨by rfl, ?_⟩) (by assumption) ?_
            rotate_left
            · intro w_ hSw; (try dsimp only at hSw); clear hSw; (try clear hHeld); go_simp <;> with_reducible rfl
            try simp only [Act.put, List.setIfInBounds_toArray, List.set_cons_zero, List.set_cons_succ, List.getElem_toArray, List.getElem_cons_zero, List.getElem_cons_succ]
            refine wpAnyH_take (i := 35) (v := ?_) rfl (by kernel_rfl) (by kernel_rfl) (by kernel_rfl) (fun _ _ _ h => h) (Or.inl ⟨by rfl, ?_⟩) (by assumption) ?_
            rotate_left
            · intro w_ hSw; (try dsimp only at hSw); have f0 := box17_cells hSw.1; clear hSw; (try clear hHeld); go_simp <;> with_reducible rfl
            try simp only [Act.put, List.setIfInBounds_toArray, List.set_cons_zero, List.set_cons_succ, List.getElem_toArray, List.getElem_cons_zero, List.getElem_cons_succ]
            refine wpAnyH_take (i := 36) (v := ?_) rfl (by kernel_rfl) (by kernel_rfl) (by kernel_rfl) (fun _ _ _ h => h) (Or.inl ⟨by rfl, ?_⟩) (by assumption) ?_
            rotate_left
            · intro w_ hSw; (try dsimp only at hSw); clear hSw; (try clear hHeld); go_simp <;> with_reducible rfl
            try simp only [Act.put, List.setIfInBounds_toArray, List.set_cons_zero, List.set_cons_succ, List.getElem_toArray, List.getElem_cons_zero, List.getElem_cons_succ]
            refine wpAnyH_take (i := 37) (v := ?_) rfl (by kernel_rfl) (by kernel_rfl) (by kernel_rfl) (fun _ _ _ h => h) (Or.inl ⟨by rfl, ?_⟩) (by assumption) ?_
            rotate_left
            · intro w_ hSw; (try dsimp only at hSw); have f0 := box17_cells hSw.1; clear hSw; (try clear hHeld); go_simp <;> with_reducible rfl
            try simp only [Act.put, List.setIfInBounds_toArray, List.set_cons_zero, List.set_cons_succ, List.getElem_toArray, List.getElem_cons_zero, List.getElem_cons_succ]
            refine wpAnyH_ready (rs := [38]) (by kernel_rfl) (by simp) ?_
            refine (AllReadyH.cons rfl (fun J hJ => ?_) AllReadyH.nil)
            go_simp
            go_at_call 17
            refine (KD2.out _ HK1.2.2).mono ?_
            rintro e v2 ⟨rfl, rfl⟩
            go_wp2_with fail
            refine hJ.out _ _ HK1 (fun hHeld => ?_)
            clear hJ J
            try simp only [Act.put, List.setIfInBounds_toArray, List.set_cons_zero, List.set_cons_succ, List.getElem_toArray, List.getElem_cons_zero, List.getElem_cons_succ]
            refine wpAnyH_take (i := 39) (v := ?_) rfl (by kernel_rfl) (by kernel_rfl) (by kernel_rfl) (fun _ _ _ h => h) (Or.inl ⟨by rfl, ?_⟩) (by assumption) ?_
            rotate_left
            · intro w_ hSw; (try dsimp only at hSw); clear hSw; (try clear hHeld); go_simp <;> with_reducible rfl
            try simp only [Act.put, List.setIfInBounds_toArray, List.set_cons_zero, List.set_cons_succ, List.getElem_toArray, List.getElem_cons_zero, List.getElem_cons_succ]
            refine wpAnyH_take (i := 40) (v := ?_) rfl (by kernel_rfl) (by kernel_rfl) (by kernel_rfl) (fun _ _ _ h => h) (Or.inl ⟨by rfl, ?_⟩) (by assumption) ?_
            rotate_left
            · intro w_ hSw; (try dsimp only at hSw); clear hSw; (try clear hHeld); go_simp <;> with_reducible rfl
            try simp only [Act.put, List.setIfInBounds_toArray, List.set_cons_zero, List.set_cons_succ, List.getElem_toArray, List.getElem_cons_zero, List.getElem_cons_succ]
            refine wpAnyH_take (i := 41) (v := ?_) rfl (by kernel_rfl) (by kernel_rfl) (by kernel_rfl) (fun _ _ _ h => h) (Or.inl ⟨by rfl, ?_⟩) (by assumption) ?_
            rotate_left
            · intro w_ hSw; (try dsimp only at hSw); clear hSw; (try clear hHeld); go_simp <;> with_reducible rfl
            try simp only [Act.put, List.setIfInBounds_toArray, List.set_cons_zero, List.set_cons_succ, List.getElem_toArray, List.getElem_cons_zero, List.getElem_cons_succ]
            refine wpAnyH_take (i := 42) (v := ?_) rfl (by kernel_rfl) (by kernel_rfl) (by kernel_rfl) (fun _ _ _ h => h) (Or.inl ⟨by rfl, ?_⟩) (by assumption) ?_
            rotate_left
            · intro w_ hSw; (try dsimp only at hSw); clear hSw; (try clear hHeld); go_simp <;> with_reducible rfl
            try simp only [Act.put, List.setIfInBounds_toArray, List.set_cons_zero, List.set_cons_succ, List.getElem_toArray, List.getElem_cons_zero, List.getElem_cons_succ]
            refine wpAnyH_take (i := 43) (v := ?_) rfl (by kernel_rfl) (by kernel_rfl) (by kernel_rfl) (fun _ _ _ h => h) (Or.inl ⟨by rfl, ?_⟩) (by assumption) ?_
            rotate_left
            · intro w_ hSw; (try dsimp only at hSw); have f0 := box17_cells hSw.1; clear hSw; (try clear hHeld); go_simp <;> with_reducible rfl
            try simp only [Act.put, List.setIfInBounds_toArray, List.set_cons_zero, List.set_cons_succ, List.getElem_toArray, List.getElem_cons_zero, List.getElem_cons_succ]
            refine wpAnyH_take (i := 44) (v := ?_) rfl (by kernel_rfl) (by kernel_rfl) (by kernel_rfl) (fun _ _ _ h => h) (Or.inl ⟨by rfl, ?_⟩) (by assumption) ?_
            rotate_left
            · intro w_ hSw; (try dsimp only at hSw); clear hSw; (try clear hHeld); go_simp <;> with_reducible rfl
            try simp only [Act.put, List.setIfInBounds_toArray, List.set_cons_zero, List.set_cons_succ, List.getElem_toArray, List.getElem_cons_zero, List.getElem_cons_succ]
            refine wpAnyH_take (i := 45) (v := ?_) rfl (by kernel_rfl) (by kernel_rfl) (by kernel_rfl) (fun _ _ _ h => h) (Or.inl ⟨by rfl, ?_⟩) (by assumption) ?_
            rotate_left
            · intro w_ hSw; (try dsimp only at hSw); clear hSw; (try clear hHeld); go_simp <;> with_reducible rfl
            try simp only [Act.put, List.setIfInBounds_toArray, List.set_cons_zero, List.set_cons_succ, List.getElem_toArray, List.getElem_cons_zero, List.getElem_cons_succ]
            refine wpAnyH_take (i := 46) (v := ?_) rfl (by kernel_rfl) (by kernel_rfl) (by kernel_rfl) (fun _ _ _ h => h) (Or.inl ⟨by rfl, ?_⟩) (by assumption) ?_
            rotate_left
            · intro w_ hSw; (try dsimp only at hSw); clear hSw; (try clear hHeld); go_simp <;> with_reducible rfl
            try simp only [Act.put, List.setIfInBounds_toArray, List.set_cons_zero, List.set_cons_succ, List.getElem_toArray, List.getElem_cons_zero, List.getElem_cons_succ]
            clear hHeld
            refine wpAnyH_done (by kernel_rfl) ?_ _
            have HBf : Hid (Below w1.heap.size w1 v2) := bel_on (Nat.le_refl _) HB9.out HK1.2.2
            go_wp2
            go_ret
            exact ⟨rfl, HBf.out⟩
end Go.Proofs.YtbcegpncledolaaDoor
