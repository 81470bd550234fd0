/-
  FnLinks over bytes that are few enough.
-/
import Derived.Test.YtbcegpncledolaaDoorGrBJ
import Derived.Test.YtbcegpncledolaaDoorGrBA
import Derived.Test.YtbcegpncledolaaDoorGrBD
import Derived.Deep.DeepCutAuto
namespace Go.Proofs.YtbcegpncledolaaDoor
open Go.RowKit Go.PlainAid
open Go.Lib (decDigits)
set_option linter.unusedVariables false
set_option linter.unusedSimpArgs false

def SPd (w : World) (gp : Nat) (p0 p1 p2 : Int) : Prop := (w.cell? ⟨gp, 0, none⟩ = some (.int .i64 p0) ∧ w.cell? ⟨gp, 1, none⟩ = some (.int .i64 p1) ∧ w.cell? ⟨gp, 2, none⟩ = some (.int .i64 p2))
def SPe (w : World) (gp x4 : Nat) (p0 p1 p2 dd : Int) : Prop := (w.cell? ⟨gp, 0, none⟩ = some (.int .i64 p0) ∧ w.cell? ⟨gp, 1, none⟩ = some (.int .i64 p1) ∧ w.cell? ⟨gp, 2, none⟩ = some (.int .i64 p2)) ∧ w.cell? ⟨x4, 2, none⟩ = some (.int .i64 dd)
def KL (w w' : World) (i j k : Nat) (o p q : Obj) : Prop := w'.heap[i]? = some o ∧ w'.heap[j]? = some p ∧ w'.heap[k]? = some q ∧ Below w.heap.size w w'
theorem KL.on {w w' w2 : World} {i j k : Nat} {o p q : Obj} (h : KL w w' i j k o p q) (hb : Below w'.heap.size w' w2) : KL w w2 i j k o p q := ⟨row_on h.1 hb, row_on h.2.1 hb, row_on h.2.2.1 hb, bel_on (Nat.le_refl _) h.2.2.2 hb⟩
set_option maxRecDepth 100000 in
set_option maxHeartbeats 16000000 in
theorem links_in (a : Option Addr) (len cap : Nat) (hb : len ≤ 1048576) (w : World) (hcode : CodeOk w w.heap.size a len) (ht : Q.Tab w) :
    Calls Tryd.prog 3 #[.slice a len cap] w fun e w' => e = .returned (.bool true) ∧ Below w.heap.size w w' := by
  have HC : Hid (CodeOk w w.heap.size a len) := hcode
  have HT : Hid (Q.Tab w) := ht
  clear hcode ht
  go_enter Tryd.func3, Tryd.ntmps3
  go_wp2_with fail
  refine (big5 a len cap (by omega) _).mono ?_
  rintro e w1 ⟨rfl, rfl⟩
  rw [decide_eq_false (by omega)]
  go_wp2_with fail
  refine (places7 w1.heap.size a len cap _ HC.out (Nat.le_refl _)).mono ?_
  rintro e w2 ⟨gp, cp, p0, p1, p2, p3, rfl, h0, h1, h2, h3, hgp, k0, k1, k2, k3, hrest⟩
  have HB2 : Hid (Below w1.heap.size w1 w2) := hrest.2
  have HP2 : Hid (w2.cell? ⟨gp, 0, none⟩ = some (.int .i64 p0) ∧ w2.cell? ⟨gp, 1, none⟩ = some (.int .i64 p1) ∧ w2.cell? ⟨gp, 2, none⟩ = some (.int .i64 p2)) := ⟨k0, k1, k2⟩
  have hgp2 : gp < w2.heap.size := hrest.1
  obtain ⟨c0, hc0⟩ : ∃ c : Int, p0.tmod 9 = c := ⟨_, rfl⟩
  have hc0b : 0 ≤ c0 ∧ c0 ≤ 8 := by rw [Int.tmod_eq_emod_of_nonneg h0.1] at hc0; omega
  obtain ⟨c2, hc2⟩ : ∃ c : Int, p2.tmod 90 = c := ⟨_, rfl⟩
  have hc2b : 0 ≤ c2 ∧ c2 ≤ 89 := by rw [Int.tmod_eq_emod_of_nonneg h2.1] at hc2; omega
  obtain ⟨dd, hdd⟩ : ∃ dd : Int, 1 + c0 = dd := ⟨_, rfl⟩
  obtain ⟨vv, hvv⟩ : ∃ vv : Int, 1 + c2 = vv := ⟨_, rfl⟩
  obtain ⟨m3, hm3⟩ : ∃ m3 : Int, 3 * dd = m3 := ⟨_, rfl⟩
  obtain ⟨c1, hc1⟩ : ∃ c : Int, p1.tmod m3 = c := ⟨_, rfl⟩
  have hc1b : 0 ≤ c1 ∧ c1 < m3 := by
    rw [Int.tmod_eq_emod_of_nonneg h1.1] at hc1
    rw [← hc1]
    exact ⟨Int.emod_nonneg _ (by omega), Int.emod_lt_of_pos _ (by omega)⟩
  obtain ⟨nn, hnn⟩ : ∃ nn : Int, 1 + c1 = nn := ⟨_, rfl⟩
  have q0 : IntKind.i64.wrap (1 + c0) = dd := (wrap_in (by omega) (by omega)).trans hdd
  have q2 : IntKind.i64.wrap (1 + c2) = vv := (wrap_in (by omega) (by omega)).trans hvv
  have q3 : IntKind.i64.wrap (3 * dd) = m3 := (wrap_in (by omega) (by omega)).trans hm3
  have q1 : IntKind.i64.wrap (1 + c1) = nn := (wrap_in (by omega) (by omega)).trans hnn
  have hddb : 1 ≤ dd ∧ dd ≤ 9 := by omega
  have hvvb : 1 ≤ vv ∧ vv ≤ 90 := by omega
  have hnnb : 1 ≤ nn ∧ nn ≤ 3 * dd := by omega
  have hm0 : ¬ m3 = 0 := by omega
  have e0 : p0 % 9 = c0 := by rw [← Int.tmod_eq_emod_of_nonneg h0.1]; exact hc0
  have e2 : p2 % 90 = c2 := by rw [← Int.tmod_eq_emod_of_nonneg h2.1]; exact hc2
  have e1 : p1 % m3 = c1 := by rw [← Int.tmod_eq_emod_of_nonneg h1.1]; exact hc1
  have HOR : Hid (OrdR 1 nn dd vv) := by show OrdR 1 nn dd vv; unfold OrdR; omega
  have HPB0 : Hid (0 ≤ p0 ∧ p0 ≤ 9999) := h0
  have HPB1 : Hid (0 ≤ p1 ∧ p1 ≤ 9999) := h1
  clear h0 h1 h2 h3 hgp k0 k1 k2 k3 hrest hc0b hc2b hc1b hdd hvv hm3 hnn
  go_upto_region 4 with fail
  go_cut [4] (fun v4 wd => ∃ X4 : Nat, v4 = .pointer (some ⟨X4, 0, none⟩) ∧ gp < X4 ∧ w1.heap.size ≤ X4 ∧ Hid (wd.heap[X4]? = some (.cells #[.int .i64 1, .int .i64 0, .int .i64 dd, .int .i64 vv] 27)) ∧ Hid (wd.cell? ⟨gp, 0, none⟩ = some (.int .i64 p0) ∧ wd.cell? ⟨gp, 1, none⟩ = some (.int .i64 p1) ∧ wd.cell? ⟨gp, 2, none⟩ = some (.int .i64 p2)) ∧ Hid (Below w1.heap.size w1 wd))
  case first =>
    have HK : SPd w2.drew gp p0 p1 p2 := HP2.out
    refine wp_region_held_drew (S := fun w' => SPd w' gp p0 p1 p2) (by kernel_rfl) HK (fun hHeld => ?_)
    obtain ⟨v0, hv0⟩ : ∃ v0, w2.drew = v0 := ⟨_, rfl⟩
    have HBv : Hid (Below w1.heap.size w1 v0) := by rw [← hv0]; exact HB2.out.drew
    have hgv : gp < v0.heap.size := by rw [← hv0]; exact hgp2
    rw [hv0] at HK hHeld ⊢
    clear hv0 HP2 HB2
    refine wpAnyH_take (i := 0) (v := ?_) rfl (by kernel_rfl) (by kernel_rfl) (by kernel_rfl) (fun _ _ _ h => h) (Or.inl ⟨by rfl, ?_⟩) (by assumption) ?_
    rotate_left
    · intro w_ hSw; (try dsimp only at hSw); clear hSw; (try clear hHeld); go_simp <;> with_reducible rfl
    try simp only [Act.put, List.setIfInBounds_toArray, List.set_cons_zero, List.set_cons_succ, List.getElem_toArray, List.getElem_cons_zero, List.getElem_cons_succ]
    refine wpAnyH_take (i := 1) (v := ?_) rfl (by kernel_rfl) (by kernel_rfl) (by kernel_rfl) (fun _ _ _ h => h) (Or.inl ⟨by rfl, ?_⟩) (by assumption) ?_
    rotate_left
    · intro w_ hSw; (try dsimp only at hSw); clear hSw; (try clear hHeld); go_simp <;> with_reducible rfl
    try simp only [Act.put, List.setIfInBounds_toArray, List.set_cons_zero, List.set_cons_succ, List.getElem_toArray, List.getElem_cons_zero, List.getElem_cons_succ]
    refine wpAnyH_take (i := 2) (v := ?_) rfl (by kernel_rfl) (by kernel_rfl) (by kernel_rfl) (fun _ _ _ h => h) (Or.inl ⟨by rfl, ?_⟩) (by assumption) ?_
    rotate_left
    · intro w_ hSw; (try dsimp only at hSw); have f0 := hSw.1; clear hSw; (try clear hHeld); go_simp <;> with_reducible rfl
    try simp only [Act.put, List.setIfInBounds_toArray, List.set_cons_zero, List.set_cons_succ, List.getElem_toArray, List.getElem_cons_zero, List.getElem_cons_succ]
    refine wpAnyH_take (i := 3) (v := ?_) rfl (by kernel_rfl) (by kernel_rfl) (by kernel_rfl) (fun _ _ _ h => h) (Or.inl ⟨by rfl, ?_⟩) (by assumption) ?_
    rotate_left
    · intro w_ hSw; (try dsimp only at hSw); clear hSw; (try clear hHeld); go_simp <;> with_reducible rfl
    try simp only [Act.put, List.setIfInBounds_toArray, List.set_cons_zero, List.set_cons_succ, List.getElem_toArray, List.getElem_cons_zero, List.getElem_cons_succ]
    refine wpAnyH_take (i := 4) (v := ?_) rfl (by kernel_rfl) (by kernel_rfl) (by kernel_rfl) (fun _ _ _ h => h) (Or.inl ⟨by rfl, ?_⟩) (by assumption) ?_
    rotate_left
    · intro w_ hSw; (try dsimp only at hSw); clear hSw; (try clear hHeld); go_simp <;> with_reducible rfl
    try simp only [Act.put, List.setIfInBounds_toArray, List.set_cons_zero, List.set_cons_succ, List.getElem_toArray, List.getElem_cons_zero, List.getElem_cons_succ]
    refine wpAnyH_take (i := 5) (v := ?_) rfl (by kernel_rfl) (by kernel_rfl) (by kernel_rfl) (fun _ _ _ h => h) (Or.inl ⟨by rfl, ?_⟩) (by assumption) ?_
    rotate_left
    · intro w_ hSw; (try dsimp only at hSw); clear hSw; (try clear hHeld); go_simp <;> with_reducible rfl
    try simp only [Act.put, List.setIfInBounds_toArray, List.set_cons_zero, List.set_cons_succ, List.getElem_toArray, List.getElem_cons_zero, List.getElem_cons_succ]
    refine wpAnyH_take (i := 6) (v := ?_) rfl (by kernel_rfl) (by kernel_rfl) (by kernel_rfl) (fun _ _ _ h => h) (Or.inl ⟨by rfl, ?_⟩) (by assumption) ?_
    rotate_left
    · intro w_ hSw; (try dsimp only at hSw); clear hSw; (try clear hHeld); go_simp <;> with_reducible rfl
    try simp only [Act.put, List.setIfInBounds_toArray, List.set_cons_zero, List.set_cons_succ, List.getElem_toArray, List.getElem_cons_zero, List.getElem_cons_succ]
    refine wpAnyH_take (i := 7) (v := ?_) rfl (by kernel_rfl) (by kernel_rfl) (by kernel_rfl) (fun _ _ _ h => h) (Or.inl ⟨by rfl, ?_⟩) (by assumption) ?_
    rotate_left
    · intro w_ hSw; (try dsimp only at hSw); have f0 := hSw.2.2; clear hSw; (try clear hHeld); go_simp <;> with_reducible rfl
    try simp only [Act.put, List.setIfInBounds_toArray, List.set_cons_zero, List.set_cons_succ, List.getElem_toArray, List.getElem_cons_zero, List.getElem_cons_succ]
    refine wpAnyH_take (i := 8) (v := ?_) rfl (by kernel_rfl) (by kernel_rfl) (by kernel_rfl) (fun _ _ _ h => h) (Or.inl ⟨by rfl, ?_⟩) (by assumption) ?_
    rotate_left
    · intro w_ hSw; (try dsimp only at hSw); clear hSw; (try clear hHeld); go_simp <;> with_reducible rfl
    try simp only [Act.put, List.setIfInBounds_toArray, List.set_cons_zero, List.set_cons_succ, List.getElem_toArray, List.getElem_cons_zero, List.getElem_cons_succ]
    refine wpAnyH_take (i := 9) (v := ?_) rfl (by kernel_rfl) (by kernel_rfl) (by kernel_rfl) (fun _ _ _ h => h) (Or.inl ⟨by rfl, ?_⟩) (by assumption) ?_
    rotate_left
    · intro w_ hSw; (try dsimp only at hSw); clear hSw; (try clear hHeld); go_simp <;> with_reducible rfl
    try simp only [Act.put, List.setIfInBounds_toArray, List.set_cons_zero, List.set_cons_succ, List.getElem_toArray, List.getElem_cons_zero, List.getElem_cons_succ]
    refine wpAnyH_take (i := 10) (v := ?_) rfl (by kernel_rfl) (by kernel_rfl) (by kernel_rfl) (fun _ _ _ h => h) (Or.inl ⟨by rfl, ?_⟩) (by assumption) ?_
    rotate_left
    · intro w_ hSw; (try dsimp only at hSw); clear hSw; (try clear hHeld); go_simp <;> with_reducible rfl
    try simp only [Act.put, List.setIfInBounds_toArray, List.set_cons_zero, List.set_cons_succ, List.getElem_toArray, List.getElem_cons_zero, List.getElem_cons_succ]
    refine wpAnyH_ready (rs := [11]) (by kernel_rfl) (by simp) ?_
    refine (AllReadyH.cons rfl (fun J hJ => ?_) AllReadyH.nil)
    go_simp
    have HX : Hid ((v0.alloc (.cells #[.int .i64 0, .int .i64 0, .int .i64 0, .int .i64 0] 27)).heap[v0.heap.size]? = some (.cells #[.int .i64 0, .int .i64 0, .int .i64 0, .int .i64 0] 27)) := heap_new v0 _
    have HPv : Hid ((v0.alloc (.cells #[.int .i64 0, .int .i64 0, .int .i64 0, .int .i64 0] 27)).cell? ⟨gp, 0, none⟩ = some (.int .i64 p0) ∧ (v0.alloc (.cells #[.int .i64 0, .int .i64 0, .int .i64 0, .int .i64 0] 27)).cell? ⟨gp, 1, none⟩ = some (.int .i64 p1) ∧ (v0.alloc (.cells #[.int .i64 0, .int .i64 0, .int .i64 0, .int .i64 0] 27)).cell? ⟨gp, 2, none⟩ = some (.int .i64 p2)) := pl_on HK (alM _ _)
    have HBw : Hid (Below w1.heap.size w1 (v0.alloc (.cells #[.int .i64 0, .int .i64 0, .int .i64 0, .int .i64 0] 27))) := bel_on (Nat.le_refl _) HBv.out (alM _ _)
    have hsz : w1.heap.size ≤ v0.heap.size := HBv.out.size
    refine hJ.out _ _ HPv.out (fun hHeld => ?_)
    clear hJ J HK HBv
    try simp only [Act.put, List.setIfInBounds_toArray, List.set_cons_zero, List.set_cons_succ, List.getElem_toArray, List.getElem_cons_zero, List.getElem_cons_succ]
    generalize v0.alloc (.cells #[.int .i64 0, .int .i64 0, .int .i64 0, .int .i64 0] 27) = v1 at *
    generalize v0.heap.size = X4 at *
    refine wpAnyH_ready (rs := [12]) (by kernel_rfl) (by simp) ?_
    refine (AllReadyH.cons rfl (fun J hJ => ?_) AllReadyH.nil)
    refine storeR_any rfl rfl _ _ _ rfl X4 #[.int .i64 1, .int .i64 0, .int .i64 dd, .int .i64 vv] rfl rfl (by kernel_rfl) (by kernel_rfl) HX.out rfl ?_
    intro v2 hput
    have HX2 : Hid (v2.heap[X4]? = some (.cells #[.int .i64 1, .int .i64 0, .int .i64 dd, .int .i64 vv] 27)) := hput.1
    have HP3 : Hid (v2.cell? ⟨gp, 0, none⟩ = some (.int .i64 p0) ∧ v2.cell? ⟨gp, 1, none⟩ = some (.int .i64 p1) ∧ v2.cell? ⟨gp, 2, none⟩ = some (.int .i64 p2)) := pl_put HPv.out hput (by omega)
    have HB3 : Hid (Below w1.heap.size w1 v2) := hput.2.2.2 _ _ hsz HBw.out
    clear hput HX HPv HBw
    refine hJ.out _ _ HP3.out (fun hHeld => ?_)
    clear hJ J
    try simp only [Act.put, List.setIfInBounds_toArray, List.set_cons_zero, List.set_cons_succ, List.getElem_toArray, List.getElem_cons_zero, List.getElem_cons_succ]
    clear hHeld
    refine wpAnyH_done (by kernel_rfl) ?_ _
    (try go_wp2_with fail)
    go_meet
    exact ⟨X4, rfl, hgv, hsz, HX2, HP3, HB3⟩
  case rest =>
    obtain ⟨X4, rfl, hg4, hw4, HX, HP, HB⟩ := hcut
    clear HP2 HB2 hgp2
    obtain ⟨w3, hw3⟩ : ∃ w3, wc = w3 := ⟨_, rfl⟩
    rw [hw3] at HX HP HB ⊢
    clear hw3
    go_upto_region 5 with fail
    go_cut [] (fun wd => Hid (wd.heap[X4]? = some (.cells #[.int .i64 1, .int .i64 nn, .int .i64 dd, .int .i64 vv] 27)) ∧ Hid (wd.cell? ⟨gp, 0, none⟩ = some (.int .i64 p0) ∧ wd.cell? ⟨gp, 1, none⟩ = some (.int .i64 p1) ∧ wd.cell? ⟨gp, 2, none⟩ = some (.int .i64 p2)) ∧ Hid (Below w1.heap.size w1 wd))
    case first =>
      have HK : SPe w3.drew gp X4 p0 p1 p2 dd := ⟨HP.out, by show w3.cell? _ = _; exact (box4_cells HX.out).1.2.2.1⟩
      refine wp_region_held_drew (S := fun w' => SPe w' gp X4 p0 p1 p2 dd) (by kernel_rfl) HK (fun hHeld => ?_)
      obtain ⟨v0, hv0⟩ : ∃ v0, w3.drew = v0 := ⟨_, rfl⟩
      have HBv : Hid (Below w1.heap.size w1 v0) := by rw [← hv0]; exact HB.out.drew
      have HXv : Hid (v0.heap[X4]? = some (.cells #[.int .i64 1, .int .i64 0, .int .i64 dd, .int .i64 vv] 27)) := by rw [← hv0]; exact HX.out
      rw [hv0] at HK hHeld ⊢
      clear hv0 HX HP HB
      refine wpAnyH_take (i := 0) (v := ?_) rfl (by kernel_rfl) (by kernel_rfl) (by kernel_rfl) (fun _ _ _ h => h) (Or.inl ⟨by rfl, ?_⟩) (by assumption) ?_
      rotate_left
      · intro w_ hSw; (try dsimp only at hSw); clear hSw; (try clear hHeld); go_simp <;> with_reducible rfl
      try simp only [Act.put, List.setIfInBounds_toArray, List.set_cons_zero, List.set_cons_succ, List.getElem_toArray, List.getElem_cons_zero, List.getElem_cons_succ]
      refine wpAnyH_take (i := 1) (v := ?_) rfl (by kernel_rfl) (by kernel_rfl) (by kernel_rfl) (fun _ _ _ h => h) (Or.inl ⟨by rfl, ?_⟩) (by assumption) ?_
      rotate_left
      · intro w_ hSw; (try dsimp only at hSw); clear hSw; (try clear hHeld); go_simp <;> with_reducible rfl
      try simp only [Act.put, List.setIfInBounds_toArray, List.set_cons_zero, List.set_cons_succ, List.getElem_toArray, List.getElem_cons_zero, List.getElem_cons_succ]
      refine wpAnyH_take (i := 2) (v := ?_) rfl (by kernel_rfl) (by kernel_rfl) (by kernel_rfl) (fun _ _ _ h => h) (Or.inl ⟨by rfl, ?_⟩) (by assumption) ?_
      rotate_left
      · intro w_ hSw; (try dsimp only at hSw); have f0 := hSw.1.2.1; clear hSw; (try clear hHeld); go_simp <;> with_reducible rfl
      try simp only [Act.put, List.setIfInBounds_toArray, List.set_cons_zero, List.set_cons_succ, List.getElem_toArray, List.getElem_cons_zero, List.getElem_cons_succ]
      refine wpAnyH_take (i := 3) (v := ?_) rfl (by kernel_rfl) (by kernel_rfl) (by kernel_rfl) (fun _ _ _ h => h) (Or.inl ⟨by rfl, ?_⟩) (by assumption) ?_
      rotate_left
      · intro w_ hSw; (try dsimp only at hSw); clear hSw; (try clear hHeld); go_simp <;> with_reducible rfl
      try simp only [Act.put, List.setIfInBounds_toArray, List.set_cons_zero, List.set_cons_succ, List.getElem_toArray, List.getElem_cons_zero, List.getElem_cons_succ]
      refine wpAnyH_take (i := 4) (v := ?_) rfl (by kernel_rfl) (by kernel_rfl) (by kernel_rfl) (fun _ _ _ h => h) (Or.inl ⟨by rfl, ?_⟩) (by assumption) ?_
      rotate_left
      · intro w_ hSw; (try dsimp only at hSw); have f0 := hSw.2; clear hSw; (try clear hHeld); go_simp <;> with_reducible rfl
      try simp only [Act.put, List.setIfInBounds_toArray, List.set_cons_zero, List.set_cons_succ, List.getElem_toArray, List.getElem_cons_zero, List.getElem_cons_succ]
      refine wpAnyH_take (i := 5) (v := ?_) rfl (by kernel_rfl) (by kernel_rfl) (by kernel_rfl) (fun _ _ _ h => h) (Or.inl ⟨by rfl, ?_⟩) (by assumption) ?_
      rotate_left
      · intro w_ hSw; (try dsimp only at hSw); clear hSw; (try clear hHeld); go_simp <;> with_reducible rfl
      try simp only [Act.put, List.setIfInBounds_toArray, List.set_cons_zero, List.set_cons_succ, List.getElem_toArray, List.getElem_cons_zero, List.getElem_cons_succ]
      refine wpAnyH_take (i := 6) (v := ?_) rfl (by kernel_rfl) (by kernel_rfl) (by kernel_rfl) (fun _ _ _ h => h) (Or.inl ⟨by rfl, ?_⟩) (by assumption) ?_
      rotate_left
      · intro w_ hSw; (try dsimp only at hSw); clear hSw; (try clear hHeld); go_simp <;> with_reducible rfl
      try simp only [Act.put, List.setIfInBounds_toArray, List.set_cons_zero, List.set_cons_succ, List.getElem_toArray, List.getElem_cons_zero, List.getElem_cons_succ]
      refine wpAnyH_take (i := 7) (v := ?_) rfl (by kernel_rfl) (by kernel_rfl) (by kernel_rfl) (fun _ _ _ h => h) (Or.inl ⟨by rfl, ?_⟩) (by assumption) ?_
      rotate_left
      · intro w_ hSw; (try dsimp only at hSw); clear hSw; (try clear hHeld); go_simp <;> with_reducible rfl
      try simp only [Act.put, List.setIfInBounds_toArray, List.set_cons_zero, List.set_cons_succ, List.getElem_toArray, List.getElem_cons_zero, List.getElem_cons_succ]
      refine wpAnyH_take (i := 8) (v := ?_) rfl (by kernel_rfl) (by kernel_rfl) (by kernel_rfl) (fun _ _ _ h => h) (Or.inl ⟨by rfl, ?_⟩) (by assumption) ?_
      rotate_left
      · intro w_ hSw; (try dsimp only at hSw); clear hSw; (try clear hHeld); go_simp <;> with_reducible rfl
      try simp only [Act.put, List.setIfInBounds_toArray, List.set_cons_zero, List.set_cons_succ, List.getElem_toArray, List.getElem_cons_zero, List.getElem_cons_succ]
      refine wpAnyH_ready (rs := [9]) (by kernel_rfl) (by simp) ?_
      refine (AllReadyH.cons rfl (fun J hJ => ?_) AllReadyH.nil)
      refine storeN_any rfl rfl _ _ _ rfl rfl X4 1 nn rfl rfl HXv.out (by simp) ?_
      intro v2 hput
      have HX2 : Hid (v2.heap[X4]? = some (.cells #[.int .i64 1, .int .i64 nn, .int .i64 dd, .int .i64 vv] 27)) := hput.1
      have HB3 : Hid (Below w1.heap.size w1 v2) := hput.2.2.2 _ _ hw4 HBv.out
      have HPz : Hid (v2.cell? ⟨gp, 0, none⟩ = some (.int .i64 p0) ∧ v2.cell? ⟨gp, 1, none⟩ = some (.int .i64 p1) ∧ v2.cell? ⟨gp, 2, none⟩ = some (.int .i64 p2)) := pl_put HK.1 hput (by omega)
      have HK2 : SPe v2 gp X4 p0 p1 p2 dd := ⟨pl_put HK.1 hput (by omega), (box4_cells HX2.out).1.2.2.1⟩
      clear hput HXv HBv HK
      refine hJ.out _ _ HK2 (fun hHeld => ?_)
      clear hJ J HK2
      try simp only [Act.put, List.setIfInBounds_toArray, List.set_cons_zero, List.set_cons_succ, List.getElem_toArray, List.getElem_cons_zero, List.getElem_cons_succ]
      clear hHeld
      refine wpAnyH_done (by kernel_rfl) ?_ _
      (try go_wp2_with fail)
      go_meet
      exact ⟨HX2, HPz, HB3⟩
    case rest =>
      obtain ⟨HX4, HP4, HB4⟩ := hcut
      clear HX HP HB
      obtain ⟨w4, hw4'⟩ : ∃ w4, wc = w4 := ⟨_, rfl⟩
      rw [hw4'] at HX4 HP4 HB4 ⊢
      clear hw4' q0 q1 q2 q3 e0 e1 e2 hc0 hc1 hc2 hm0
      have o4 := box4_cells HX4.out
      obtain ⟨L, hL⟩ : ∃ L, ordT 1 nn dd vv = L := ⟨_, rfl⟩
      have HL : Hid (ordT 1 nn dd vv = L) := hL
      have hLs : L.size ≤ 40 := by rw [← hL]; exact (ordT_sized HOR.out).2
      have hL0 : 0 < L.size := by rw [← hL]; exact (ordT_sized HOR.out).1
      have KT : Hid (∀ w, Calls Tryd.prog 8 #[.agg #[.int .i64 1, .int .i64 nn, .int .i64 dd, .int .i64 vv]] w fun e w' => e = .returned (.tuple #[.string L, .bool true]) ∧ Below w.heap.size w w') := fun w => by rw [← hL]; exact textS 1 nn dd vv HOR.out w
      clear hL
      obtain ⟨⟨P2, l2, al2, m2, t2, rf2⟩, hTa⟩ : ∃ y, tickD newD (ordI nn dd vv) = y := ⟨_, rfl⟩
      have hs1 : 1 ≤ P2.s := by have h := lnk_run HOR.out; rw [hTa] at h; exact h
      have HTa : Hid (tickD newD (ordI nn dd vv) = ⟨P2, l2, al2, m2, t2, rf2⟩) := hTa
      have htl : t2.length = 1 := by
        have h := (tick_ok newD_ok (inpL_ok HOR.out).ic).2.1
        have h' : (tickD newD (ordI nn dd vv)).t.length = ([] : List Tk3).length + 1 := h
        rw [hTa] at h'
        exact h'
      have HTL : Hid (t2.length = 1) := htl
      have KA : Hid (∀ w, Q.Tab w → Calls Tryd.prog 9 #[.agg #[.int .i64 newP.s, .int .i64 newP.n, .int .i64 newP.d, .int .i64 newP.r, .int .i64 newP.l, .int .i64 newP.b, .int .i64 newP.g, .int .i64 newP.k, .slice none 0 0, .int .i64 0, .int .i64 newM.a, .bool newM.b, .int .i64 newM.n, .int .i64 newM.d, .string ⟨newM.s.toArray⟩, .slice none 0 0, .int .i64 0], .agg #[.int .i64 0, .string ⟨#[]⟩, .string L]] w fun e w' => ∃ ga na ca gta tna cta, e = .returned (.agg #[.int .i64 P2.s, .int .i64 P2.n, .int .i64 P2.d, .int .i64 P2.r, .int .i64 P2.l, .int .i64 P2.b, .int .i64 P2.g, .int .i64 P2.k, .slice (some ⟨ga, 0, none⟩) na ca, .int .i64 al2, .int .i64 m2.a, .bool m2.b, .int .i64 m2.n, .int .i64 m2.d, .string ⟨m2.s.toArray⟩, .slice (some ⟨gta, 0, none⟩) tna cta, .int .i64 rf2]) ∧ G.OwnN w' w.heap.size ga na ca l2 ∧ OwnU w' w.heap.size gta tna cta t2 ∧ Below w.heap.size w w') := fun w hw => by
        rw [← HL.out]
        exact tkdI newP none 0 0 [] 0 newM none 0 0 [] 0 (inpL nn dd vv) (inpL_ok HOR.out) newD_ok rfl rfl (by omega) (by omega) (by decide) P2 l2 al2 m2 t2 rf2 HTa.out w hw (fun h => by simp at h) (fun h => by simp at h)
      obtain ⟨en, hen⟩ : ∃ en : Nat, (en : Int) = nn := ⟨nn.toNat, by omega⟩
      obtain ⟨ed, hed⟩ : ∃ en : Nat, (en : Int) = dd := ⟨dd.toNat, by omega⟩
      obtain ⟨ev, hev⟩ : ∃ en : Nat, (en : Int) = vv := ⟨vv.toNat, by omega⟩
      obtain ⟨A, hA⟩ : ∃ A : ByteArray, (⟨(decDigits en).toArray⟩ : ByteArray) = A := ⟨_, rfl⟩
      obtain ⟨B, hB⟩ : ∃ A : ByteArray, (⟨(decDigits ed).toArray⟩ : ByteArray) = A := ⟨_, rfl⟩
      obtain ⟨C, hC⟩ : ∃ A : ByteArray, (⟨(decDigits ev).toArray⟩ : ByteArray) = A := ⟨_, rfl⟩
      have hAs : A.size ≤ 4 := by rw [← hA]; rw [Dc.acc_size]; exact dec_four (by omega)
      have hBs : B.size ≤ 4 := by rw [← hB]; rw [Dc.acc_size]; exact dec_four (by omega)
      have hCs : C.size ≤ 4 := by rw [← hC]; rw [Dc.acc_size]; exact dec_four (by omega)
      have KDn : Hid (∀ w, Calls Tryd.prog 11 #[.int .i64 nn] w fun e w' => e = .returned (.string A) ∧ Below w.heap.size w w') := fun w => decSd en nn hen A hA (by omega) w
      have KDd : Hid (∀ w, Calls Tryd.prog 11 #[.int .i64 dd] w fun e w' => e = .returned (.string B) ∧ Below w.heap.size w w') := fun w => decSd ed dd hed B hB (by omega) w
      have KDv : Hid (∀ w, Calls Tryd.prog 11 #[.int .i64 vv] w fun e w' => e = .returned (.string C) ∧ Below w.heap.size w w') := fun w => decSd ev vv hev C hC (by omega) w
      obtain ⟨T1, hT1⟩ : ∃ T, (⟨#[98]⟩ : ByteArray) ++ A = T := ⟨_, rfl⟩
      obtain ⟨T2, hT2⟩ : ∃ T, T1 ++ ⟨#[10]⟩ = T := ⟨_, rfl⟩
      obtain ⟨T3, hT3⟩ : ∃ T, T2 ++ B = T := ⟨_, rfl⟩
      obtain ⟨T4, hT4⟩ : ∃ T, T3 ++ ⟨#[10]⟩ = T := ⟨_, rfl⟩
      obtain ⟨T5, hT5⟩ : ∃ T, T4 ++ C = T := ⟨_, rfl⟩
      obtain ⟨T6, hT6⟩ : ∃ T, T5 ++ ⟨#[10]⟩ = T := ⟨_, rfl⟩
      have z1 : T1.size = 1 + A.size := by rw [← hT1, ByteArray.size_append]; rfl
      have z2 : T2.size = T1.size + 1 := by rw [← hT2, ByteArray.size_append]; rfl
      have z3 : T3.size = T2.size + B.size := by rw [← hT3, ByteArray.size_append]
      have z4 : T4.size = T3.size + 1 := by rw [← hT4, ByteArray.size_append]; rfl
      have z5 : T5.size = T4.size + C.size := by rw [← hT5, ByteArray.size_append]
      have z6 : T6.size = T5.size + 1 := by rw [← hT6, ByteArray.size_append]; rfl
      have u1 : (⟨#[98]⟩ : ByteArray).size = 1 := rfl
      have u2 : (⟨#[10]⟩ : ByteArray).size = 1 := rfl
      have H1 := addTd hT1 (by omega)
      have H2 := addTd hT2 (by omega)
      have H3 := addTd hT3 (by omega)
      have H4 := addTd hT4 (by omega)
      have H5 := addTd hT5 (by omega)
      have H6 := addTd hT6 (by omega)
      obtain ⟨ks, hks⟩ : ∃ ks : List UInt8, [98] ++ decDigits en ++ [10] ++ decDigits ed ++ [10] ++ decDigits ev ++ [10] = ks := ⟨_, rfl⟩
      have hkT : (⟨ks.toArray⟩ : ByteArray) = T6 := by rw [← hks, cat7d hA hB hC, hT1, hT2, hT3, hT4, hT5, hT6]
      have hkA : allM newM ks = (newM, [(1, nn, dd, vv)]) := by
        rw [← hks, typed_basal (by omega) (by omega) (by omega)]
        have e : basL en ed ev = [(1, (en : Int), (ed : Int), (ev : Int))] := by unfold basL; rw [if_pos (by omega)]
        rw [e, hen, hed, hev]
      have hkl : ks.length ≤ 20 := by have h := txt_size hkT; omega
      have KB : Hid (∀ w, Q.Tab w → Calls Tryd.prog 9 #[.agg #[.int .i64 newP.s, .int .i64 newP.n, .int .i64 newP.d, .int .i64 newP.r, .int .i64 newP.l, .int .i64 newP.b, .int .i64 newP.g, .int .i64 newP.k, .slice none 0 0, .int .i64 0, .int .i64 newM.a, .bool newM.b, .int .i64 newM.n, .int .i64 newM.d, .string ⟨newM.s.toArray⟩, .slice none 0 0, .int .i64 0], .agg #[.int .i64 0, .string T6, .string ⟨#[]⟩]] w fun e w' => ∃ gb nb cb gtb tnb ctb, e = .returned (.agg #[.int .i64 P2.s, .int .i64 P2.n, .int .i64 P2.d, .int .i64 P2.r, .int .i64 P2.l, .int .i64 P2.b, .int .i64 P2.g, .int .i64 P2.k, .slice (some ⟨gb, 0, none⟩) nb cb, .int .i64 al2, .int .i64 m2.a, .bool m2.b, .int .i64 m2.n, .int .i64 m2.d, .string ⟨m2.s.toArray⟩, .slice (some ⟨gtb, 0, none⟩) tnb ctb, .int .i64 rf2]) ∧ G.OwnN w' w.heap.size gb nb cb l2 ∧ OwnU w' w.heap.size gtb tnb ctb t2 ∧ Below w.heap.size w w') := fun w hw => by
        rw [← hkT]
        exact tkdI newP none 0 0 [] 0 newM none 0 0 [] 0 (inpK ks) ⟨rfl, .inl ⟨rfl, rfl, rfl⟩, by show (0 : Int) ≤ 0 ∧ (0 : Int) ≤ 15; decide, by show (⟨ks.toArray⟩ : ByteArray).size ≤ 20; rw [hkT]; omega, by show (0 : Nat) ≤ 40; decide⟩ newD_ok rfl rfl (by omega) (by omega) (by decide) P2 l2 al2 m2 t2 rf2 (by show tickD newD (keyI ks) = _; rw [lnk_same hkA]; exact HTa.out) w hw (fun h => by simp at h) (fun h => by simp at h)
      obtain ⟨lc, alc, mc, tc, hTc⟩ := lnk_bad
      have HTc : Hid (tickD newD badI = ⟨newP, lc, alc, mc, tc, 1⟩) := hTc
      have KC2 : Hid (∀ (T : ByteArray) w, Trn L T → Q.Tab w → Calls Tryd.prog 9 #[.agg #[.int .i64 newP.s, .int .i64 newP.n, .int .i64 newP.d, .int .i64 newP.r, .int .i64 newP.l, .int .i64 newP.b, .int .i64 newP.g, .int .i64 newP.k, .slice none 0 0, .int .i64 0, .int .i64 newM.a, .bool newM.b, .int .i64 newM.n, .int .i64 newM.d, .string ⟨newM.s.toArray⟩, .slice none 0 0, .int .i64 0], .agg #[.int .i64 0, .string ⟨#[]⟩, .string T]] w fun e w' => ∃ gc nc cc gtc tnc ctc, e = .returned (.agg #[.int .i64 newP.s, .int .i64 newP.n, .int .i64 newP.d, .int .i64 newP.r, .int .i64 newP.l, .int .i64 newP.b, .int .i64 newP.g, .int .i64 newP.k, .slice (some ⟨gc, 0, none⟩) nc cc, .int .i64 alc, .int .i64 mc.a, .bool mc.b, .int .i64 mc.n, .int .i64 mc.d, .string ⟨mc.s.toArray⟩, .slice (some ⟨gtc, 0, none⟩) tnc ctc, .int .i64 1]) ∧ G.OwnN w' w.heap.size gc nc cc lc ∧ OwnU w' w.heap.size gtc tnc ctc tc ∧ Below w.heap.size w w') := fun T w hT hw =>
        tkdI newP none 0 0 [] 0 newM none 0 0 [] 0 (inpT T) (inpT_ok HOR.out (by rw [HL.out]; exact hT)) newD_ok rfl rfl (by omega) (by omega) (by decide) newP lc alc mc tc 1 HTc.out w hw (fun h => by simp at h) (fun h => by simp at h)
      clear hTa htl hTc hen hed hev hA hB hC hT1 hT2 hT3 hT4 hT5 hT6 z1 z2 z3 z4 z5 z6 u1 u2 hks hkT hkA hkl hAs hBs hCs HTa HTc HL
      go_wp2_with fail
      refine Calls.mono (KT.out _) ?_
      rintro e w5 ⟨rfl, hbc⟩
      have HX5 : Hid (w5.heap[X4]? = some (.cells #[.int .i64 1, .int .i64 nn, .int .i64 dd, .int .i64 vv] 27)) := row_on HX4.out hbc
      have HP5 : Hid (w5.cell? ⟨gp, 0, none⟩ = some (.int .i64 p0) ∧ w5.cell? ⟨gp, 1, none⟩ = some (.int .i64 p1) ∧ w5.cell? ⟨gp, 2, none⟩ = some (.int .i64 p2)) := pl_on HP4.out hbc
      have HB5 : Hid (Below w1.heap.size w1 w5) := bel_on (Nat.le_refl _) HB4.out hbc
      clear hbc HX4 HP4 HB4 o4 KT
      go_wp2_with fail
      refine (devNewI _).mono ?_
      rintro e w6 ⟨rfl, hbc⟩
      have HX6 : Hid (w6.heap[X4]? = some (.cells #[.int .i64 1, .int .i64 nn, .int .i64 dd, .int .i64 vv] 27)) := row_on HX5.out hbc
      have HP6 : Hid (w6.cell? ⟨gp, 0, none⟩ = some (.int .i64 p0) ∧ w6.cell? ⟨gp, 1, none⟩ = some (.int .i64 p1) ∧ w6.cell? ⟨gp, 2, none⟩ = some (.int .i64 p2)) := pl_on HP5.out hbc
      have HB6 : Hid (Below w1.heap.size w1 w6) := bel_on (Nat.le_refl _) HB5.out hbc
      clear hbc HX5 HP5 HB5
      go_wp2_with fail
      refine Calls.mono (KA.out _ (Q.tab_below HT.out HB6.out)) ?_
      rintro e w7 ⟨ga, na, ca, gta, tna, cta, rfl, hG, hU, hbc⟩
      obtain ⟨X7, hX7⟩ : ∃ b, w7.heap.size = b := ⟨_, rfl⟩
      have h47 : X4 < X7 := by have h1 := row_lt HX6.out; have h2 := hbc.size; omega
      have hp7 : gp < X7 := by omega
      have HX8 : Hid ((w7.alloc (.cells #[.int .i64 0, .int .i64 0, .int .i64 0, .int .i64 0, .int .i64 0, .int .i64 0, .int .i64 0, .int .i64 0, .slice none 0 0, .int .i64 0, .int .i64 0, .bool false, .int .i64 0, .int .i64 0, .string ⟨#[]⟩, .slice none 0 0, .int .i64 0] 40)).heap[X4]? = some (.cells #[.int .i64 1, .int .i64 nn, .int .i64 dd, .int .i64 vv] 27)) := row_on (row_on HX6.out hbc) (alM _ _)
      have HP8 : Hid ((w7.alloc (.cells #[.int .i64 0, .int .i64 0, .int .i64 0, .int .i64 0, .int .i64 0, .int .i64 0, .int .i64 0, .int .i64 0, .slice none 0 0, .int .i64 0, .int .i64 0, .bool false, .int .i64 0, .int .i64 0, .string ⟨#[]⟩, .slice none 0 0, .int .i64 0] 40)).cell? ⟨gp, 0, none⟩ = some (.int .i64 p0) ∧ (w7.alloc (.cells #[.int .i64 0, .int .i64 0, .int .i64 0, .int .i64 0, .int .i64 0, .int .i64 0, .int .i64 0, .int .i64 0, .slice none 0 0, .int .i64 0, .int .i64 0, .bool false, .int .i64 0, .int .i64 0, .string ⟨#[]⟩, .slice none 0 0, .int .i64 0] 40)).cell? ⟨gp, 1, none⟩ = some (.int .i64 p1) ∧ (w7.alloc (.cells #[.int .i64 0, .int .i64 0, .int .i64 0, .int .i64 0, .int .i64 0, .int .i64 0, .int .i64 0, .int .i64 0, .slice none 0 0, .int .i64 0, .int .i64 0, .bool false, .int .i64 0, .int .i64 0, .string ⟨#[]⟩, .slice none 0 0, .int .i64 0] 40)).cell? ⟨gp, 2, none⟩ = some (.int .i64 p2)) := pl_on (pl_on HP6.out hbc) (alM _ _)
      have HB8 : Hid (Below w1.heap.size w1 (w7.alloc (.cells #[.int .i64 0, .int .i64 0, .int .i64 0, .int .i64 0, .int .i64 0, .int .i64 0, .int .i64 0, .int .i64 0, .slice none 0 0, .int .i64 0, .int .i64 0, .bool false, .int .i64 0, .int .i64 0, .string ⟨#[]⟩, .slice none 0 0, .int .i64 0] 40))) := bel_on (Nat.le_refl _) (bel_on (Nat.le_refl _) HB6.out hbc) (alM _ _)
      have HU8 : Hid (OwnU (w7.alloc (.cells #[.int .i64 0, .int .i64 0, .int .i64 0, .int .i64 0, .int .i64 0, .int .i64 0, .int .i64 0, .int .i64 0, .slice none 0 0, .int .i64 0, .int .i64 0, .bool false, .int .i64 0, .int .i64 0, .string ⟨#[]⟩, .slice none 0 0, .int .i64 0] 40)) w6.heap.size gta tna cta t2) := hU.on (alM _ _)
      have HN8 : Hid ((w7.alloc (.cells #[.int .i64 0, .int .i64 0, .int .i64 0, .int .i64 0, .int .i64 0, .int .i64 0, .int .i64 0, .int .i64 0, .slice none 0 0, .int .i64 0, .int .i64 0, .bool false, .int .i64 0, .int .i64 0, .string ⟨#[]⟩, .slice none 0 0, .int .i64 0] 40)).heap[X7]? = some (.cells #[.int .i64 0, .int .i64 0, .int .i64 0, .int .i64 0, .int .i64 0, .int .i64 0, .int .i64 0, .int .i64 0, .slice none 0 0, .int .i64 0, .int .i64 0, .bool false, .int .i64 0, .int .i64 0, .string ⟨#[]⟩, .slice none 0 0, .int .i64 0] 40)) := by rw [← hX7]; exact heap_new w7 _
      have hw17 : w1.heap.size ≤ X7 := by omega
      clear hG hU hbc HX6 HP6 HB6 KA
      go_wp2_with (refine listStoreD rfl rfl _ _ _ rfl rfl X7 #[.int .i64 P2.s, .int .i64 P2.n, .int .i64 P2.d, .int .i64 P2.r, .int .i64 P2.l, .int .i64 P2.b, .int .i64 P2.g, .int .i64 P2.k, .slice (some ⟨ga, 0, none⟩) na ca, .int .i64 al2, .int .i64 m2.a, .bool m2.b, .int .i64 m2.n, .int .i64 m2.d, .string ⟨m2.s.toArray⟩, .slice (some ⟨gta, 0, none⟩) tna cta, .int .i64 rf2] rfl rfl rfl (by kernel_rfl) HN8.out rfl ?_)
      intro w9 hput
      have HD9 : Hid (w9.heap[X7]? = some (.cells #[.int .i64 P2.s, .int .i64 P2.n, .int .i64 P2.d, .int .i64 P2.r, .int .i64 P2.l, .int .i64 P2.b, .int .i64 P2.g, .int .i64 P2.k, .slice (some ⟨ga, 0, none⟩) na ca, .int .i64 al2, .int .i64 m2.a, .bool m2.b, .int .i64 m2.n, .int .i64 m2.d, .string ⟨m2.s.toArray⟩, .slice (some ⟨gta, 0, none⟩) tna cta, .int .i64 rf2] 40)) := hput.1
      have HX9 : Hid (w9.heap[X4]? = some (.cells #[.int .i64 1, .int .i64 nn, .int .i64 dd, .int .i64 vv] 27)) := hput.far HX8.out (by omega)
      have HP9 : Hid (w9.cell? ⟨gp, 0, none⟩ = some (.int .i64 p0) ∧ w9.cell? ⟨gp, 1, none⟩ = some (.int .i64 p1) ∧ w9.cell? ⟨gp, 2, none⟩ = some (.int .i64 p2)) := pl_put HP8.out hput (by omega)
      have HU9 : Hid (OwnU w9 w6.heap.size gta tna cta t2) := own_putM HU8.out hput (own_ne HU8.out HN8.out (by decide))
      have HB9 : Hid (Below w1.heap.size w1 w9) := hput.2.2.2 _ _ hw17 HB8.out
      clear hput HX8 HP8 HB8 HU8 HN8 hX7
      go_upto_region 8 with fail
      go_cut [8] (fun v8 wd => ∃ (V gb nb cb gtb tnb ctb : Nat), v8 = .pointer (some ⟨V, 0, none⟩) ∧ w9.heap.size ≤ V ∧ Hid (Below w9.heap.size w9 wd) ∧ Hid (wd.heap[V]? = some (.cells #[.int .i64 P2.s, .int .i64 P2.n, .int .i64 P2.d, .int .i64 P2.r, .int .i64 P2.l, .int .i64 P2.b, .int .i64 P2.g, .int .i64 P2.k, .slice (some ⟨gb, 0, none⟩) nb cb, .int .i64 al2, .int .i64 m2.a, .bool m2.b, .int .i64 m2.n, .int .i64 m2.d, .string ⟨m2.s.toArray⟩, .slice (some ⟨gtb, 0, none⟩) tnb ctb, .int .i64 rf2] 40)) ∧ Hid (OwnU wd w9.heap.size gtb tnb ctb t2))
      case first =>
        have HK : w9.drew.heap[X4]? = some (.cells #[.int .i64 1, .int .i64 nn, .int .i64 dd, .int .i64 vv] 27) := HX9.out
        refine wp_region_held_drew (S := fun w' => w'.heap[X4]? = some (.cells #[.int .i64 1, .int .i64 nn, .int .i64 dd, .int .i64 vv] 27)) (by kernel_rfl) HK (fun hHeld => ?_)
        obtain ⟨v0, hv0⟩ : ∃ v0, w9.drew = v0 := ⟨_, rfl⟩
        have BB0 : Hid (Below w9.heap.size w9 v0) := by rw [← hv0]; exact (Below.refl _ _).drew
        rw [hv0] at hHeld ⊢
        clear hv0 HK
        refine wpAnyH_take (i := 1) (v := ?_) rfl (by kernel_rfl) (by kernel_rfl) (by kernel_rfl) (fun _ _ _ h => h) (Or.inl ⟨by rfl, ?_⟩) (by assumption) ?_
        rotate_left
        · intro w_ hSw; (try dsimp only at hSw); clear hSw; (try clear hHeld); go_simp <;> with_reducible rfl
        try simp only [Act.put, List.setIfInBounds_toArray, List.set_cons_zero, List.set_cons_succ, List.getElem_toArray, List.getElem_cons_zero, List.getElem_cons_succ]
        refine wpAnyH_take (i := 2) (v := ?_) rfl (by kernel_rfl) (by kernel_rfl) (by kernel_rfl) (fun _ _ _ h => h) (Or.inl ⟨by rfl, ?_⟩) (by assumption) ?_
        rotate_left
        · intro w_ hSw; (try dsimp only at hSw); have f0 := box4_cells hSw; clear hSw; (try clear hHeld); go_simp <;> with_reducible rfl
        try simp only [Act.put, List.setIfInBounds_toArray, List.set_cons_zero, List.set_cons_succ, List.getElem_toArray, List.getElem_cons_zero, List.getElem_cons_succ]
        refine wpAnyH_take (i := 6) (v := ?_) rfl (by kernel_rfl) (by kernel_rfl) (by kernel_rfl) (fun _ _ _ h => h) (Or.inl ⟨by rfl, ?_⟩) (by assumption) ?_
        rotate_left
        · intro w_ hSw; (try dsimp only at hSw); clear hSw; (try clear hHeld); go_simp <;> with_reducible rfl
        try simp only [Act.put, List.setIfInBounds_toArray, List.set_cons_zero, List.set_cons_succ, List.getElem_toArray, List.getElem_cons_zero, List.getElem_cons_succ]
        refine wpAnyH_take (i := 7) (v := ?_) rfl (by kernel_rfl) (by kernel_rfl) (by kernel_rfl) (fun _ _ _ h => h) (Or.inl ⟨by rfl, ?_⟩) (by assumption) ?_
        rotate_left
        · intro w_ hSw; (try dsimp only at hSw); have f0 := box4_cells hSw; clear hSw; (try clear hHeld); go_simp <;> with_reducible rfl
        try simp only [Act.put, List.setIfInBounds_toArray, List.set_cons_zero, List.set_cons_succ, List.getElem_toArray, List.getElem_cons_zero, List.getElem_cons_succ]
        refine wpAnyH_take (i := 11) (v := ?_) rfl (by kernel_rfl) (by kernel_rfl) (by kernel_rfl) (fun _ _ _ h => h) (Or.inl ⟨by rfl, ?_⟩) (by assumption) ?_
        rotate_left
        · intro w_ hSw; (try dsimp only at hSw); clear hSw; (try clear hHeld); go_simp <;> with_reducible rfl
        try simp only [Act.put, List.setIfInBounds_toArray, List.set_cons_zero, List.set_cons_succ, List.getElem_toArray, List.getElem_cons_zero, List.getElem_cons_succ]
        refine wpAnyH_take (i := 12) (v := ?_) rfl (by kernel_rfl) (by kernel_rfl) (by kernel_rfl) (fun _ _ _ h => h) (Or.inl ⟨by rfl, ?_⟩) (by assumption) ?_
        rotate_left
        · intro w_ hSw; (try dsimp only at hSw); have f0 := box4_cells hSw; clear hSw; (try clear hHeld); go_simp <;> with_reducible rfl
        try simp only [Act.put, List.setIfInBounds_toArray, List.set_cons_zero, List.set_cons_succ, List.getElem_toArray, List.getElem_cons_zero, List.getElem_cons_succ]
        refine wpAnyH_ready (rs := [0, 18]) (by kernel_rfl) (by simp) ?_
        refine (AllReadyH.cons rfl (fun J hJ => ?_) (AllReadyH.cons rfl (fun J hJ => ?_) AllReadyH.nil))
        · go_simp
          go_at_call 10
          refine (devNewI _).mono ?_
          rintro e v1 ⟨rfl, hbc⟩
          have BB1 : Hid (Below w9.heap.size w9 v1) := bel_on (Nat.le_refl _) BB0.out hbc
          clear hbc BB0
          go_wp2_with fail
          refine hJ.out _ _ (row_on HX9.out BB1.out) (fun hHeld => ?_)
          clear hJ J
          try simp only [Act.put, List.setIfInBounds_toArray, List.set_cons_zero, List.set_cons_succ, List.getElem_toArray, List.getElem_cons_zero, List.getElem_cons_succ]
          refine wpAnyH_ready (rs := [3, 18]) (by kernel_rfl) (by simp) ?_
          refine (AllReadyH.cons rfl (fun J hJ => ?_) (AllReadyH.cons rfl (fun J hJ => ?_) AllReadyH.nil))
          · go_simp
            go_at_call 11
            refine Calls.mono (KDn.out _) ?_
            rintro e v2 ⟨rfl, hbc⟩
            have BB2 : Hid (Below w9.heap.size w9 v2) := bel_on (Nat.le_refl _) BB1.out hbc
            clear hbc BB1
            go_wp2_with fail
            refine hJ.out _ _ (row_on HX9.out BB2.out) (fun hHeld => ?_)
            clear hJ J
            try simp only [Act.put, List.setIfInBounds_toArray, List.set_cons_zero, List.set_cons_succ, List.getElem_toArray, List.getElem_cons_zero, List.getElem_cons_succ]
            refine wpAnyH_take (i := 4) (v := .string T1) rfl (by kernel_rfl) (by kernel_rfl) (by kernel_rfl) (fun _ _ _ h => h) (Or.inl ⟨by rfl, fun w_ hSw => exec_add _ _ _ _ rfl ⟨#[98]⟩ A T1 rfl rfl H1⟩) (by assumption) ?_
            try simp only [Act.put, List.setIfInBounds_toArray, List.set_cons_zero, List.set_cons_succ, List.getElem_toArray, List.getElem_cons_zero, List.getElem_cons_succ]
            refine wpAnyH_take (i := 5) (v := .string T2) rfl (by kernel_rfl) (by kernel_rfl) (by kernel_rfl) (fun _ _ _ h => h) (Or.inl ⟨by rfl, fun w_ hSw => exec_add _ _ _ _ rfl T1 ⟨#[10]⟩ T2 rfl rfl H2⟩) (by assumption) ?_
            try simp only [Act.put, List.setIfInBounds_toArray, List.set_cons_zero, List.set_cons_succ, List.getElem_toArray, List.getElem_cons_zero, List.getElem_cons_succ]
            refine wpAnyH_ready (rs := [8, 18]) (by kernel_rfl) (by simp) ?_
            refine (AllReadyH.cons rfl (fun J hJ => ?_) (AllReadyH.cons rfl (fun J hJ => ?_) AllReadyH.nil))
            · go_simp
              go_at_call 11
              refine Calls.mono (KDd.out _) ?_
              rintro e v3 ⟨rfl, hbc⟩
              have BB3 : Hid (Below w9.heap.size w9 v3) := bel_on (Nat.le_refl _) BB2.out hbc
              clear hbc BB2
              go_wp2_with fail
              refine hJ.out _ _ (row_on HX9.out BB3.out) (fun hHeld => ?_)
              clear hJ J
              try simp only [Act.put, List.setIfInBounds_toArray, List.set_cons_zero, List.set_cons_succ, List.getElem_toArray, List.getElem_cons_zero, List.getElem_cons_succ]
              refine wpAnyH_take (i := 9) (v := .string T3) rfl (by kernel_rfl) (by kernel_rfl) (by kernel_rfl) (fun _ _ _ h => h) (Or.inl ⟨by rfl, fun w_ hSw => exec_add _ _ _ _ rfl T2 B T3 rfl rfl H3⟩) (by assumption) ?_
              try simp only [Act.put, List.setIfInBounds_toArray, List.set_cons_zero, List.set_cons_succ, List.getElem_toArray, List.getElem_cons_zero, List.getElem_cons_succ]
              refine wpAnyH_take (i := 10) (v := .string T4) rfl (by kernel_rfl) (by kernel_rfl) (by kernel_rfl) (fun _ _ _ h => h) (Or.inl ⟨by rfl, fun w_ hSw => exec_add _ _ _ _ rfl T3 ⟨#[10]⟩ T4 rfl rfl H4⟩) (by assumption) ?_
              try simp only [Act.put, List.setIfInBounds_toArray, List.set_cons_zero, List.set_cons_succ, List.getElem_toArray, List.getElem_cons_zero, List.getElem_cons_succ]
              refine wpAnyH_ready (rs := [13, 18]) (by kernel_rfl) (by simp) ?_
              refine (AllReadyH.cons rfl (fun J hJ => ?_) (AllReadyH.cons rfl (fun J hJ => ?_) AllReadyH.nil))
              · go_simp
                go_at_call 11
                refine Calls.mono (KDv.out _) ?_
                rintro e v4 ⟨rfl, hbc⟩
                have BB4 : Hid (Below w9.heap.size w9 v4) := bel_on (Nat.le_refl _) BB3.out hbc
                clear hbc BB3
                go_wp2_with fail
                refine hJ.out _ _ (row_on HX9.out BB4.out) (fun hHeld => ?_)
                clear hJ J
                try simp only [Act.put, List.setIfInBounds_toArray, List.set_cons_zero, List.set_cons_succ, List.getElem_toArray, List.getElem_cons_zero, List.getElem_cons_succ]
                refine wpAnyH_take (i := 14) (v := .string T5) rfl (by kernel_rfl) (by kernel_rfl) (by kernel_rfl) (fun _ _ _ h => h) (Or.inl ⟨by rfl, fun w_ hSw => exec_add _ _ _ _ rfl T4 C T5 rfl rfl H5⟩) (by assumption) ?_
                try simp only [Act.put, List.setIfInBounds_toArray, List.set_cons_zero, List.set_cons_succ, List.getElem_toArray, List.getElem_cons_zero, List.getElem_cons_succ]
                refine wpAnyH_take (i := 15) (v := .string T6) rfl (by kernel_rfl) (by kernel_rfl) (by kernel_rfl) (fun _ _ _ h => h) (Or.inl ⟨by rfl, fun w_ hSw => exec_add _ _ _ _ rfl T5 ⟨#[10]⟩ T6 rfl rfl H6⟩) (by assumption) ?_
                try simp only [Act.put, List.setIfInBounds_toArray, List.set_cons_zero, List.set_cons_succ, List.getElem_toArray, List.getElem_cons_zero, List.getElem_cons_succ]
                refine wpAnyH_take (i := 16) (v := ?_) rfl (by kernel_rfl) (by kernel_rfl) (by kernel_rfl) (fun _ _ _ h => h) (Or.inl ⟨by rfl, ?_⟩) (by assumption) ?_
                rotate_left
                · intro w_ hSw; (try dsimp only at hSw); clear hSw; (try clear hHeld); go_simp <;> with_reducible rfl
                try simp only [Act.put, List.setIfInBounds_toArray, List.set_cons_zero, List.set_cons_succ, List.getElem_toArray, List.getElem_cons_zero, List.getElem_cons_succ]
                refine wpAnyH_ready (rs := [17, 18]) (by kernel_rfl) (by simp) ?_
                refine (AllReadyH.cons rfl (fun J hJ => ?_) (AllReadyH.cons rfl (fun J hJ => ?_) AllReadyH.nil))
                · go_simp
                  go_at_call 9
                  refine Calls.mono (KB.out _ (Q.tab_below HT.out (bel_on (Nat.le_refl _) HB9.out BB4.out))) ?_
                  rintro e v5 ⟨gb, nb, cb, gtb, tnb, ctb, rfl, hG, hU, hbc⟩
                  have HU5 : Hid (OwnU v5 w9.heap.size gtb tnb ctb t2) := hU.mono BB4.out.size
                  clear hG hU
                  have BB5 : Hid (Below w9.heap.size w9 v5) := bel_on (Nat.le_refl _) BB4.out hbc
                  clear hbc BB4
                  go_wp2_with fail
                  refine hJ.out _ _ (row_on HX9.out BB5.out) (fun hHeld => ?_)
                  clear hJ J
                  try simp only [Act.put, List.setIfInBounds_toArray, List.set_cons_zero, List.set_cons_succ, List.getElem_toArray, List.getElem_cons_zero, List.getElem_cons_succ]
                  refine wpAnyH_ready (rs := [18]) (by kernel_rfl) (by simp) ?_
                  refine (AllReadyH.cons rfl (fun J hJ => ?_) AllReadyH.nil)
                  go_simp
                  have BB6 : Hid (Below w9.heap.size w9 (v5.alloc (.cells #[.int .i64 0, .int .i64 0, .int .i64 0, .int .i64 0, .int .i64 0, .int .i64 0, .int .i64 0, .int .i64 0, .slice none 0 0, .int .i64 0, .int .i64 0, .bool false, .int .i64 0, .int .i64 0, .string ⟨#[]⟩, .slice none 0 0, .int .i64 0] 40))) := bel_on (Nat.le_refl _) BB5.out (alM _ _)
                  have HV6 : Hid ((v5.alloc (.cells #[.int .i64 0, .int .i64 0, .int .i64 0, .int .i64 0, .int .i64 0, .int .i64 0, .int .i64 0, .int .i64 0, .slice none 0 0, .int .i64 0, .int .i64 0, .bool false, .int .i64 0, .int .i64 0, .string ⟨#[]⟩, .slice none 0 0, .int .i64 0] 40)).heap[v5.heap.size]? = some (.cells #[.int .i64 0, .int .i64 0, .int .i64 0, .int .i64 0, .int .i64 0, .int .i64 0, .int .i64 0, .int .i64 0, .slice none 0 0, .int .i64 0, .int .i64 0, .bool false, .int .i64 0, .int .i64 0, .string ⟨#[]⟩, .slice none 0 0, .int .i64 0] 40)) := heap_new v5 _
                  have hV6 : w9.heap.size ≤ v5.heap.size := BB5.out.size
                  have HU6 : Hid (OwnU (v5.alloc (.cells #[.int .i64 0, .int .i64 0, .int .i64 0, .int .i64 0, .int .i64 0, .int .i64 0, .int .i64 0, .int .i64 0, .slice none 0 0, .int .i64 0, .int .i64 0, .bool false, .int .i64 0, .int .i64 0, .string ⟨#[]⟩, .slice none 0 0, .int .i64 0] 40)) w9.heap.size gtb tnb ctb t2) := HU5.out.on (alM _ _)
                  clear HU5
                  refine hJ.out _ _ (row_on HX9.out BB6.out) (fun hHeld => ?_)
                  clear hJ J BB5
                  try simp only [Act.put, List.setIfInBounds_toArray, List.set_cons_zero, List.set_cons_succ, List.getElem_toArray, List.getElem_cons_zero, List.getElem_cons_succ]
                  generalize v5.alloc (.cells #[.int .i64 0, .int .i64 0, .int .i64 0, .int .i64 0, .int .i64 0, .int .i64 0, .int .i64 0, .int .i64 0, .slice none 0 0, .int .i64 0, .int .i64 0, .bool false, .int .i64 0, .int .i64 0, .string ⟨#[]⟩, .slice none 0 0, .int .i64 0] 40) = v6 at *
                  generalize v5.heap.size = V at *
                  refine wpAnyH_ready (rs := [19]) (by kernel_rfl) (by simp) ?_
                  refine (AllReadyH.cons rfl (fun J hJ => ?_) AllReadyH.nil)
                  refine storeR_any rfl rfl _ _ _ rfl V #[.int .i64 P2.s, .int .i64 P2.n, .int .i64 P2.d, .int .i64 P2.r, .int .i64 P2.l, .int .i64 P2.b, .int .i64 P2.g, .int .i64 P2.k, .slice (some ⟨gb, 0, none⟩) nb cb, .int .i64 al2, .int .i64 m2.a, .bool m2.b, .int .i64 m2.n, .int .i64 m2.d, .string ⟨m2.s.toArray⟩, .slice (some ⟨gtb, 0, none⟩) tnb ctb, .int .i64 rf2] rfl rfl (by kernel_rfl) (by kernel_rfl) HV6.out rfl ?_
                  intro v99 hput
                  have hVs : w9.heap.size ≤ V := hV6
                  have HK9 := hput.far (row_on HX9.out BB6.out) (by have := row_lt HX9.out; omega)
                  have BB99 : Hid (Below w9.heap.size w9 v99) := hput.2.2.2 _ _ hVs BB6.out
                  have HV99 : Hid (v99.heap[V]? = some (.cells #[.int .i64 P2.s, .int .i64 P2.n, .int .i64 P2.d, .int .i64 P2.r, .int .i64 P2.l, .int .i64 P2.b, .int .i64 P2.g, .int .i64 P2.k, .slice (some ⟨gb, 0, none⟩) nb cb, .int .i64 al2, .int .i64 m2.a, .bool m2.b, .int .i64 m2.n, .int .i64 m2.d, .string ⟨m2.s.toArray⟩, .slice (some ⟨gtb, 0, none⟩) tnb ctb, .int .i64 rf2] 40)) := hput.1
                  have HU99 : Hid (OwnU v99 w9.heap.size gtb tnb ctb t2) := own_putM HU6.out hput (own_ne HU6.out HV6.out (by decide))
                  clear hput BB6 HV6 HU6
                  refine hJ.out _ _ HK9 (fun hHeld => ?_)
                  clear hJ J HK9
                  try simp only [Act.put, List.setIfInBounds_toArray, List.set_cons_zero, List.set_cons_succ, List.getElem_toArray, List.getElem_cons_zero, List.getElem_cons_succ]
                  clear hHeld
                  refine wpAnyH_done (by kernel_rfl) ?_ _
                  (try go_wp2_with fail)
                  go_meet
                  exact ⟨V, gb, nb, cb, gtb, tnb, ctb, rfl, hVs, BB99, HV99, HU99⟩
                · go_simp
                  have BB5 : Hid (Below w9.heap.size w9 (v4.alloc (.cells #[.int .i64 0, .int .i64 0, .int .i64 0, .int .i64 0, .int .i64 0, .int .i64 0, .int .i64 0, .int .i64 0, .slice none 0 0, .int .i64 0, .int .i64 0, .bool false, .int .i64 0, .int .i64 0, .string ⟨#[]⟩, .slice none 0 0, .int .i64 0] 40))) := bel_on (Nat.le_refl _) BB4.out (alM _ _)
                  have HV5 : Hid ((v4.alloc (.cells #[.int .i64 0, .int .i64 0, .int .i64 0, .int .i64 0, .int .i64 0, .int .i64 0, .int .i64 0, .int .i64 0, .slice none 0 0, .int .i64 0, .int .i64 0, .bool false, .int .i64 0, .int .i64 0, .string ⟨#[]⟩, .slice none 0 0, .int .i64 0] 40)).heap[v4.heap.size]? = some (.cells #[.int .i64 0, .int .i64 0, .int .i64 0, .int .i64 0, .int .i64 0, .int .i64 0, .int .i64 0, .int .i64 0, .slice none 0 0, .int .i64 0, .int .i64 0, .bool false, .int .i64 0, .int .i64 0, .string ⟨#[]⟩, .slice none 0 0, .int .i64 0] 40)) := heap_new v4 _
                  have hV5 : w9.heap.size ≤ v4.heap.size := BB4.out.size
                  refine hJ.out _ _ (row_on HX9.out BB5.out) (fun hHeld => ?_)
                  clear hJ J BB4
                  try simp only [Act.put, List.setIfInBounds_toArray, List.set_cons_zero, List.set_cons_succ, List.getElem_toArray, List.getElem_cons_zero, List.getElem_cons_succ]
                  generalize v4.alloc (.cells #[.int .i64 0, .int .i64 0, .int .i64 0, .int .i64 0, .int .i64 0, .int .i64 0, .int .i64 0, .int .i64 0, .slice none 0 0, .int .i64 0, .int .i64 0, .bool false, .int .i64 0, .int .i64 0, .string ⟨#[]⟩, .slice none 0 0, .int .i64 0] 40) = v5 at *
                  generalize v4.heap.size = V at *
                  refine wpAnyH_ready (rs := [17]) (by kernel_rfl) (by simp) ?_
                  refine (AllReadyH.cons rfl (fun J hJ => ?_) AllReadyH.nil)
                  go_simp
                  go_at_call 9
                  refine Calls.mono (KB.out _ (Q.tab_below HT.out (bel_on (Nat.le_refl _) HB9.out BB5.out))) ?_
                  rintro e v6 ⟨gb, nb, cb, gtb, tnb, ctb, rfl, hG, hU, hbc⟩
                  have HU6 : Hid (OwnU v6 w9.heap.size gtb tnb ctb t2) := hU.mono BB5.out.size
                  clear hG hU
                  have BB6 : Hid (Below w9.heap.size w9 v6) := bel_on (Nat.le_refl _) BB5.out hbc
                  have HV6 : Hid (v6.heap[V]? = some (.cells #[.int .i64 0, .int .i64 0, .int .i64 0, .int .i64 0, .int .i64 0, .int .i64 0, .int .i64 0, .int .i64 0, .slice none 0 0, .int .i64 0, .int .i64 0, .bool false, .int .i64 0, .int .i64 0, .string ⟨#[]⟩, .slice none 0 0, .int .i64 0] 40)) := row_on HV5.out hbc
                  have hV6 : w9.heap.size ≤ V := hV5
                  clear hbc BB5 HV5 hV5
                  go_wp2_with fail
                  refine hJ.out _ _ (row_on HX9.out BB6.out) (fun hHeld => ?_)
                  clear hJ J
                  try simp only [Act.put, List.setIfInBounds_toArray, List.set_cons_zero, List.set_cons_succ, List.getElem_toArray, List.getElem_cons_zero, List.getElem_cons_succ]
                  refine wpAnyH_ready (rs := [19]) (by kernel_rfl) (by simp) ?_
                  refine (AllReadyH.cons rfl (fun J hJ => ?_) AllReadyH.nil)
                  refine storeR_any rfl rfl _ _ _ rfl V #[.int .i64 P2.s, .int .i64 P2.n, .int .i64 P2.d, .int .i64 P2.r, .int .i64 P2.l, .int .i64 P2.b, .int .i64 P2.g, .int .i64 P2.k, .slice (some ⟨gb, 0, none⟩) nb cb, .int .i64 al2, .int .i64 m2.a, .bool m2.b, .int .i64 m2.n, .int .i64 m2.d, .string ⟨m2.s.toArray⟩, .slice (some ⟨gtb, 0, none⟩) tnb ctb, .int .i64 rf2] rfl rfl (by kernel_rfl) (by kernel_rfl) HV6.out rfl ?_
                  intro v99 hput
                  have hVs : w9.heap.size ≤ V := hV6
                  have HK9 := hput.far (row_on HX9.out BB6.out) (by have := row_lt HX9.out; omega)
                  have BB99 : Hid (Below w9.heap.size w9 v99) := hput.2.2.2 _ _ hVs BB6.out
                  have HV99 : Hid (v99.heap[V]? = some (.cells #[.int .i64 P2.s, .int .i64 P2.n, .int .i64 P2.d, .int .i64 P2.r, .int .i64 P2.l, .int .i64 P2.b, .int .i64 P2.g, .int .i64 P2.k, .slice (some ⟨gb, 0, none⟩) nb cb, .int .i64 al2, .int .i64 m2.a, .bool m2.b, .int .i64 m2.n, .int .i64 m2.d, .string ⟨m2.s.toArray⟩, .slice (some ⟨gtb, 0, none⟩) tnb ctb, .int .i64 rf2] 40)) := hput.1
                  have HU99 : Hid (OwnU v99 w9.heap.size gtb tnb ctb t2) := own_putM HU6.out hput (own_ne HU6.out HV6.out (by decide))
                  clear hput BB6 HV6 HU6
                  refine hJ.out _ _ HK9 (fun hHeld => ?_)
                  clear hJ J HK9
                  try simp only [Act.put, List.setIfInBounds_toArray, List.set_cons_zero, List.set_cons_succ, List.getElem_toArray, List.getElem_cons_zero, List.getElem_cons_succ]
                  clear hHeld
                  refine wpAnyH_done (by kernel_rfl) ?_ _
                  (try go_wp2_with fail)
                  go_meet
                  exact ⟨V, gb, nb, cb, gtb, tnb, ctb, rfl, hVs, BB99, HV99, HU99⟩
              · go_simp
                have BB4 : Hid (Below w9.heap.size w9 (v3.alloc (.cells #[.int .i64 0, .int .i64 0, .int .i64 0, .int .i64 0, .int .i64 0, .int .i64 0, .int .i64 0, .int .i64 0, .slice none 0 0, .int .i64 0, .int .i64 0, .bool false, .int .i64 0, .int .i64 0, .string ⟨#[]⟩, .slice none 0 0, .int .i64 0] 40))) := bel_on (Nat.le_refl _) BB3.out (alM _ _)
                have HV4 : Hid ((v3.alloc (.cells #[.int .i64 0, .int .i64 0, .int .i64 0, .int .i64 0, .int .i64 0, .int .i64 0, .int .i64 0, .int .i64 0, .slice none 0 0, .int .i64 0, .int .i64 0, .bool false, .int .i64 0, .int .i64 0, .string ⟨#[]⟩, .slice none 0 0, .int .i64 0] 40)).heap[v3.heap.size]? = some (.cells #[.int .i64 0, .int .i64 0, .int .i64 0, .int .i64 0, .int .i64 0, .int .i64 0, .int .i64 0, .int .i64 0, .slice none 0 0, .int .i64 0, .int .i64 0, .bool false, .int .i64 0, .int .i64 0, .string ⟨#[]⟩, .slice none 0 0, .int .i64 0] 40)) := heap_new v3 _
                have hV4 : w9.heap.size ≤ v3.heap.size := BB3.out.size
                refine hJ.out _ _ (row_on HX9.out BB4.out) (fun hHeld => ?_)
                clear hJ J BB3
                try simp only [Act.put, List.setIfInBounds_toArray, List.set_cons_zero, List.set_cons_succ, List.getElem_toArray, List.getElem_cons_zero, List.getElem_cons_succ]
                generalize v3.alloc (.cells #[.int .i64 0, .int .i64 0, .int .i64 0, .int .i64 0, .int .i64 0, .int .i64 0, .int .i64 0, .int .i64 0, .slice none 0 0, .int .i64 0, .int .i64 0, .bool false, .int .i64 0, .int .i64 0, .string ⟨#[]⟩, .slice none 0 0, .int .i64 0] 40) = v4 at *
                generalize v3.heap.size = V at *
                refine wpAnyH_ready (rs := [13]) (by kernel_rfl) (by simp) ?_
                refine (AllReadyH.cons rfl (fun J hJ => ?_) AllReadyH.nil)
                go_simp
                go_at_call 11
                refine Calls.mono (KDv.out _) ?_
                rintro e v5 ⟨rfl, hbc⟩
                have BB5 : Hid (Below w9.heap.size w9 v5) := bel_on (Nat.le_refl _) BB4.out hbc
                have HV5 : Hid (v5.heap[V]? = some (.cells #[.int .i64 0, .int .i64 0, .int .i64 0, .int .i64 0, .int .i64 0, .int .i64 0, .int .i64 0, .int .i64 0, .slice none 0 0, .int .i64 0, .int .i64 0, .bool false, .int .i64 0, .int .i64 0, .string ⟨#[]⟩, .slice none 0 0, .int .i64 0] 40)) := row_on HV4.out hbc
                have hV5 : w9.heap.size ≤ V := hV4
                clear hbc BB4 HV4 hV4
                go_wp2_with fail
                refine hJ.out _ _ (row_on HX9.out BB5.out) (fun hHeld => ?_)
                clear hJ J
                try simp only [Act.put, List.setIfInBounds_toArray, List.set_cons_zero, List.set_cons_succ, List.getElem_toArray, List.getElem_cons_zero, List.getElem_cons_succ]
                refine wpAnyH_take (i := 14) (v := .string T5) rfl (by kernel_rfl) (by kernel_rfl) (by kernel_rfl) (fun _ _ _ h => h) (Or.inl ⟨by rfl, fun w_ hSw => exec_add _ _ _ _ rfl T4 C T5 rfl rfl H5⟩) (by assumption) ?_
                try simp only [Act.put, List.setIfInBounds_toArray, List.set_cons_zero, List.set_cons_succ, List.getElem_toArray, List.getElem_cons_zero, List.getElem_cons_succ]
                refine wpAnyH_take (i := 15) (v := .string T6) rfl (by kernel_rfl) (by kernel_rfl) (by kernel_rfl) (fun _ _ _ h => h) (Or.inl ⟨by rfl, fun w_ hSw => exec_add _ _ _ _ rfl T5 ⟨#[10]⟩ T6 rfl rfl H6⟩) (by assumption) ?_
                try simp only [Act.put, List.setIfInBounds_toArray, List.set_cons_zero, List.set_cons_succ, List.getElem_toArray, List.getElem_cons_zero, List.getElem_cons_succ]
                refine wpAnyH_take (i := 16) (v := ?_) rfl (by kernel_rfl) (by kernel_rfl) (by kernel_rfl) (fun _ _ _ h => h) (Or.inl ⟨by rfl, ?_⟩) (by assumption) ?_
                rotate_left
                · intro w_ hSw; (try dsimp only at hSw); clear hSw; (try clear hHeld); go_simp <;> with_reducible rfl
                try simp only [Act.put, List.setIfInBounds_toArray, List.set_cons_zero, List.set_cons_succ, List.getElem_toArray, List.getElem_cons_zero, List.getElem_cons_succ]
                refine wpAnyH_ready (rs := [17]) (by kernel_rfl) (by simp) ?_
                refine (AllReadyH.cons rfl (fun J hJ => ?_) AllReadyH.nil)
                go_simp
                go_at_call 9
                refine Calls.mono (KB.out _ (Q.tab_below HT.out (bel_on (Nat.le_refl _) HB9.out BB5.out))) ?_
                rintro e v6 ⟨gb, nb, cb, gtb, tnb, ctb, rfl, hG, hU, hbc⟩
                have HU6 : Hid (OwnU v6 w9.heap.size gtb tnb ctb t2) := hU.mono BB5.out.size
                clear hG hU
                have BB6 : Hid (Below w9.heap.size w9 v6) := bel_on (Nat.le_refl _) BB5.out hbc
                have HV6 : Hid (v6.heap[V]? = some (.cells #[.int .i64 0, .int .i64 0, .int .i64 0, .int .i64 0, .int .i64 0, .int .i64 0, .int .i64 0, .int .i64 0, .slice none 0 0, .int .i64 0, .int .i64 0, .bool false, .int .i64 0, .int .i64 0, .string ⟨#[]⟩, .slice none 0 0, .int .i64 0] 40)) := row_on HV5.out hbc
                have hV6 : w9.heap.size ≤ V := hV5
                clear hbc BB5 HV5 hV5
                go_wp2_with fail
                refine hJ.out _ _ (row_on HX9.out BB6.out) (fun hHeld => ?_)
                clear hJ J
                try simp only [Act.put, List.setIfInBounds_toArray, List.set_cons_zero, List.set_cons_succ, List.getElem_toArray, List.getElem_cons_zero, List.getElem_cons_succ]
                refine wpAnyH_ready (rs := [19]) (by kernel_rfl) (by simp) ?_
                refine (AllReadyH.cons rfl (fun J hJ => ?_) AllReadyH.nil)
                refine storeR_any rfl rfl _ _ _ rfl V #[.int .i64 P2.s, .int .i64 P2.n, .int .i64 P2.d, .int .i64 P2.r, .int .i64 P2.l, .int .i64 P2.b, .int .i64 P2.g, .int .i64 P2.k, .slice (some ⟨gb, 0, none⟩) nb cb, .int .i64 al2, .int .i64 m2.a, .bool m2.b, .int .i64 m2.n, .int .i64 m2.d, .string ⟨m2.s.toArray⟩, .slice (some ⟨gtb, 0, none⟩) tnb ctb, .int .i64 rf2] rfl rfl (by kernel_rfl) (by kernel_rfl) HV6.out rfl ?_
                intro v99 hput
                have hVs : w9.heap.size ≤ V := hV6
                have HK9 := hput.far (row_on HX9.out BB6.out) (by have := row_lt HX9.out; omega)
                have BB99 : Hid (Below w9.heap.size w9 v99) := hput.2.2.2 _ _ hVs BB6.out
                have HV99 : Hid (v99.heap[V]? = some (.cells #[.int .i64 P2.s, .int .i64 P2.n, .int .i64 P2.d, .int .i64 P2.r, .int .i64 P2.l, .int .i64 P2.b, .int .i64 P2.g, .int .i64 P2.k, .slice (some ⟨gb, 0, none⟩) nb cb, .int .i64 al2, .int .i64 m2.a, .bool m2.b, .int .i64 m2.n, .int .i64 m2.d, .string ⟨m2.s.toArray⟩, .slice (some ⟨gtb, 0, none⟩) tnb ctb, .int .i64 rf2] 40)) := hput.1
                have HU99 : Hid (OwnU v99 w9.heap.size gtb tnb ctb t2) := own_putM HU6.out hput (own_ne HU6.out HV6.out (by decide))
                clear hput BB6 HV6 HU6
                refine hJ.out _ _ HK9 (fun hHeld => ?_)
                clear hJ J HK9
                try simp only [Act.put, List.setIfInBounds_toArray, List.set_cons_zero, List.set_cons_succ, List.getElem_toArray, List.getElem_cons_zero, List.getElem_cons_succ]
                clear hHeld
                refine wpAnyH_done (by kernel_rfl) ?_ _
                (try go_wp2_with fail)
                go_meet
                exact ⟨V, gb, nb, cb, gtb, tnb, ctb, rfl, hVs, BB99, HV99, HU99⟩
            · go_simp
              have BB3 : Hid (Below w9.heap.size w9 (v2.alloc (.cells #[.int .i64 0, .int .i64 0, .int .i64 0, .int .i64 0, .int .i64 0, .int .i64 0, .int .i64 0, .int .i64 0, .slice none 0 0, .int .i64 0, .int .i64 0, .bool false, .int .i64 0, .int .i64 0, .string ⟨#[]⟩, .slice none 0 0, .int .i64 0] 40))) := bel_on (Nat.le_refl _) BB2.out (alM _ _)
              have HV3 : Hid ((v2.alloc (.cells #[.int .i64 0, .int .i64 0, .int .i64 0, .int .i64 0, .int .i64 0, .int .i64 0, .int .i64 0, .int .i64 0, .slice none 0 0, .int .i64 0, .int .i64 0, .bool false, .int .i64 0, .int .i64 0, .string ⟨#[]⟩, .slice none 0 0, .int .i64 0] 40)).heap[v2.heap.size]? = some (.cells #[.int .i64 0, .int .i64 0, .int .i64 0, .int .i64 0, .int .i64 0, .int .i64 0, .int .i64 0, .int .i64 0, .slice none 0 0, .int .i64 0, .int .i64 0, .bool false, .int .i64 0, .int .i64 0, .string ⟨#[]⟩, .slice none 0 0, .int .i64 0] 40)) := heap_new v2 _
              have hV3 : w9.heap.size ≤ v2.heap.size := BB2.out.size
              refine hJ.out _ _ (row_on HX9.out BB3.out) (fun hHeld => ?_)
              clear hJ J BB2
              try simp only [Act.put, List.setIfInBounds_toArray, List.set_cons_zero, List.set_cons_succ, List.getElem_toArray, List.getElem_cons_zero, List.getElem_cons_succ]
              generalize v2.alloc (.cells #[.int .i64 0, .int .i64 0, .int .i64 0, .int .i64 0, .int .i64 0, .int .i64 0, .int .i64 0, .int .i64 0, .slice none 0 0, .int .i64 0, .int .i64 0, .bool false, .int .i64 0, .int .i64 0, .string ⟨#[]⟩, .slice none 0 0, .int .i64 0] 40) = v3 at *
              generalize v2.heap.size = V at *
              refine wpAnyH_ready (rs := [8]) (by kernel_rfl) (by simp) ?_
              refine (AllReadyH.cons rfl (fun J hJ => ?_) AllReadyH.nil)
              go_simp
              go_at_call 11
              refine Calls.mono (KDd.out _) ?_
              rintro e v4 ⟨rfl, hbc⟩
              have BB4 : Hid (Below w9.heap.size w9 v4) := bel_on (Nat.le_refl _) BB3.out hbc
              have HV4 : Hid (v4.heap[V]? = some (.cells #[.int .i64 0, .int .i64 0, .int .i64 0, .int .i64 0, .int .i64 0, .int .i64 0, .int .i64 0, .int .i64 0, .slice none 0 0, .int .i64 0, .int .i64 0, .bool false, .int .i64 0, .int .i64 0, .string ⟨#[]⟩, .slice none 0 0, .int .i64 0] 40)) := row_on HV3.out hbc
              have hV4 : w9.heap.size ≤ V := hV3
              clear hbc BB3 HV3 hV3
              go_wp2_with fail
              refine hJ.out _ _ (row_on HX9.out BB4.out) (fun hHeld => ?_)
              clear hJ J
              try simp only [Act.put, List.setIfInBounds_toArray, List.set_cons_zero, List.set_cons_succ, List.getElem_toArray, List.getElem_cons_zero, List.getElem_cons_succ]
              refine wpAnyH_take (i := 9) (v := .string T3) rfl (by kernel_rfl) (by kernel_rfl) (by kernel_rfl) (fun _ _ _ h => h) (Or.inl ⟨by rfl, fun w_ hSw => exec_add _ _ _ _ rfl T2 B T3 rfl rfl H3⟩) (by assumption) ?_
              try simp only [Act.put, List.setIfInBounds_toArray, List.set_cons_zero, List.set_cons_succ, List.getElem_toArray, List.getElem_cons_zero, List.getElem_cons_succ]
              refine wpAnyH_take (i := 10) (v := .string T4) rfl (by kernel_rfl) (by kernel_rfl) (by kernel_rfl) (fun _ _ _ h => h) (Or.inl ⟨by rfl, fun w_ hSw => exec_add _ _ _ _ rfl T3 ⟨#[10]⟩ T4 rfl rfl H4⟩) (by assumption) ?_
              try simp only [Act.put, List.setIfInBounds_toArray, List.set_cons_zero, List.set_cons_succ, List.getElem_toArray, List.getElem_cons_zero, List.getElem_cons_succ]
              refine wpAnyH_ready (rs := [13]) (by kernel_rfl) (by simp) ?_
              refine (AllReadyH.cons rfl (fun J hJ => ?_) AllReadyH.nil)
              go_simp
              go_at_call 11
              refine Calls.mono (KDv.out _) ?_
              rintro e v5 ⟨rfl, hbc⟩
              have BB5 : Hid (Below w9.heap.size w9 v5) := bel_on (Nat.le_refl _) BB4.out hbc
              have HV5 : Hid (v5.heap[V]? = some (.cells #[.int .i64 0, .int .i64 0, .int .i64 0, .int .i64 0, .int .i64 0, .int .i64 0, .int .i64 0, .int .i64 0, .slice none 0 0, .int .i64 0, .int .i64 0, .bool false, .int .i64 0, .int .i64 0, .string ⟨#[]⟩, .slice none 0 0, .int .i64 0] 40)) := row_on HV4.out hbc
              have hV5 : w9.heap.size ≤ V := hV4
              clear hbc BB4 HV4 hV4
              go_wp2_with fail
              refine hJ.out _ _ (row_on HX9.out BB5.out) (fun hHeld => ?_)
              clear hJ J
              try simp only [Act.put, List.setIfInBounds_toArray, List.set_cons_zero, List.set_cons_succ, List.getElem_toArray, List.getElem_cons_zero, List.getElem_cons_succ]
              refine wpAnyH_take (i := 14) (v := .string T5) rfl (by kernel_rfl) (by kernel_rfl) (by kernel_rfl) (fun _ _ _ h => h) (Or.inl ⟨by rfl, fun w_ hSw => exec_add _ _ _ _ rfl T4 C T5 rfl rfl H5⟩) (by assumption) ?_
              try simp only [Act.put, List.setIfInBounds_toArray, List.set_cons_zero, List.set_cons_succ, List.getElem_toArray, List.getElem_cons_zero, List.getElem_cons_succ]
              refine wpAnyH_take (i := 15) (v := .string T6) rfl (by kernel_rfl) (by kernel_rfl) (by kernel_rfl) (fun _ _ _ h => h) (Or.inl ⟨by rfl, fun w_ hSw => exec_add _ _ _ _ rfl T5 ⟨#[10]⟩ T6 rfl rfl H6⟩) (by assumption) ?_
              try simp only [Act.put, List.setIfInBounds_toArray, List.set_cons_zero, List.set_cons_succ, List.getElem_toArray, List.getElem_cons_zero, List.getElem_cons_succ]
              refine wpAnyH_take (i := 16) (v := ?_) rfl (by kernel_rfl) (by kernel_rfl) (by kernel_rfl) (fun _ _ _ h => h) (Or.inl ⟨by rfl, ?_⟩) (by assumption) ?_
              rotate_left
              · intro w_ hSw; (try dsimp only at hSw); clear hSw; (try clear hHeld); go_simp <;> with_reducible rfl
              try simp only [Act.put, List.setIfInBounds_toArray, List.set_cons_zero, List.set_cons_succ, List.getElem_toArray, List.getElem_cons_zero, List.getElem_cons_succ]
              refine wpAnyH_ready (rs := [17]) (by kernel_rfl) (by simp) ?_
              refine (AllReadyH.cons rfl (fun J hJ => ?_) AllReadyH.nil)
              go_simp
              go_at_call 9
              refine Calls.mono (KB.out _ (Q.tab_below HT.out (bel_on (Nat.le_refl _) HB9.out BB5.out))) ?_
              rintro e v6 ⟨gb, nb, cb, gtb, tnb, ctb, rfl, hG, hU, hbc⟩
              have HU6 : Hid (OwnU v6 w9.heap.size gtb tnb ctb t2) := hU.mono BB5.out.size
              clear hG hU
              have BB6 : Hid (Below w9.heap.size w9 v6) := bel_on (Nat.le_refl _) BB5.out hbc
              have HV6 : Hid (v6.heap[V]? = some (.cells #[.int .i64 0, .int .i64 0, .int .i64 0, .int .i64 0, .int .i64 0, .int .i64 0, .int .i64 0, .int .i64 0, .slice none 0 0, .int .i64 0, .int .i64 0, .bool false, .int .i64 0, .int .i64 0, .string ⟨#[]⟩, .slice none 0 0, .int .i64 0] 40)) := row_on HV5.out hbc
              have hV6 : w9.heap.size ≤ V := hV5
              clear hbc BB5 HV5 hV5
              go_wp2_with fail
              refine hJ.out _ _ (row_on HX9.out BB6.out) (fun hHeld => ?_)
              clear hJ J
              try simp only [Act.put, List.setIfInBounds_toArray, List.set_cons_zero, List.set_cons_succ, List.getElem_toArray, List.getElem_cons_zero, List.getElem_cons_succ]
              refine wpAnyH_ready (rs := [19]) (by kernel_rfl) (by simp) ?_
              refine (AllReadyH.cons rfl (fun J hJ => ?_) AllReadyH.nil)
              refine storeR_any rfl rfl _ _ _ rfl V #[.int .i64 P2.s, .int .i64 P2.n, .int .i64 P2.d, .int .i64 P2.r, .int .i64 P2.l, .int .i64 P2.b, .int .i64 P2.g, .int .i64 P2.k, .slice (some ⟨gb, 0, none⟩) nb cb, .int .i64 al2, .int .i64 m2.a, .bool m2.b, .int .i64 m2.n, .int .i64 m2.d, .string ⟨m2.s.toArray⟩, .slice (some ⟨gtb, 0, none⟩) tnb ctb, .int .i64 rf2] rfl rfl (by kernel_rfl) (by kernel_rfl) HV6.out rfl ?_
              intro v99 hput
              have hVs : w9.heap.size ≤ V := hV6
              have HK9 := hput.far (row_on HX9.out BB6.out) (by have := row_lt HX9.out; omega)
              have BB99 : Hid (Below w9.heap.size w9 v99) := hput.2.2.2 _ _ hVs BB6.out
              have HV99 : Hid (v99.heap[V]? = some (.cells #[.int .i64 P2.s, .int .i64 P2.n, .int .i64 P2.d, .int .i64 P2.r, .int .i64 P2.l, .int .i64 P2.b, .int .i64 P2.g, .int .i64 P2.k, .slice (some ⟨gb, 0, none⟩) nb cb, .int .i64 al2, .int .i64 m2.a, .bool m2.b, .int .i64 m2.n, .int .i64 m2.d, .string ⟨m2.s.toArray⟩, .slice (some ⟨gtb, 0, none⟩) tnb ctb, .int .i64 rf2] 40)) := hput.1
              have HU99 : Hid (OwnU v99 w9.heap.size gtb tnb ctb t2) := own_putM HU6.out hput (own_ne HU6.out HV6.out (by decide))
              clear hput BB6 HV6 HU6
              refine hJ.out _ _ HK9 (fun hHeld => ?_)
              clear hJ J HK9
              try simp only [Act.put, List.setIfInBounds_toArray, List.set_cons_zero, List.set_cons_succ, List.getElem_toArray, List.getElem_cons_zero, List.getElem_cons_succ]
              clear hHeld
              refine wpAnyH_done (by kernel_rfl) ?_ _
              (try go_wp2_with fail)
              go_meet
              exact ⟨V, gb, nb, cb, gtb, tnb, ctb, rfl, hVs, BB99, HV99, HU99⟩
          · go_simp
            have BB2 : Hid (Below w9.heap.size w9 (v1.alloc (.cells #[.int .i64 0, .int .i64 0, .int .i64 0, .int .i64 0, .int .i64 0, .int .i64 0, .int .i64 0, .int .i64 0, .slice none 0 0, .int .i64 0, .int .i64 0, .bool false, .int .i64 0, .int .i64 0, .string ⟨#[]⟩, .slice none 0 0, .int .i64 0] 40))) := bel_on (Nat.le_refl _) BB1.out (alM _ _)
            have HV2 : Hid ((v1.alloc (.cells #[.int .i64 0, .int .i64 0, .int .i64 0, .int .i64 0, .int .i64 0, .int .i64 0, .int .i64 0, .int .i64 0, .slice none 0 0, .int .i64 0, .int .i64 0, .bool false, .int .i64 0, .int .i64 0, .string ⟨#[]⟩, .slice none 0 0, .int .i64 0] 40)).heap[v1.heap.size]? = some (.cells #[.int .i64 0, .int .i64 0, .int .i64 0, .int .i64 0, .int .i64 0, .int .i64 0, .int .i64 0, .int .i64 0, .slice none 0 0, .int .i64 0, .int .i64 0, .bool false, .int .i64 0, .int .i64 0, .string ⟨#[]⟩, .slice none 0 0, .int .i64 0] 40)) := heap_new v1 _
            have hV2 : w9.heap.size ≤ v1.heap.size := BB1.out.size
            refine hJ.out _ _ (row_on HX9.out BB2.out) (fun hHeld => ?_)
            clear hJ J BB1
            try simp only [Act.put, List.setIfInBounds_toArray, List.set_cons_zero, List.set_cons_succ, List.getElem_toArray, List.getElem_cons_zero, List.getElem_cons_succ]
            generalize v1.alloc (.cells #[.int .i64 0, .int .i64 0, .int .i64 0, .int .i64 0, .int .i64 0, .int .i64 0, .int .i64 0, .int .i64 0, .slice none 0 0, .int .i64 0, .int .i64 0, .bool false, .int .i64 0, .int .i64 0, .string ⟨#[]⟩, .slice none 0 0, .int .i64 0] 40) = v2 at *
            generalize v1.heap.size = V at *
            refine wpAnyH_ready (rs := [3]) (by kernel_rfl) (by simp) ?_
            refine (AllReadyH.cons rfl (fun J hJ => ?_) AllReadyH.nil)
            go_simp
            go_at_call 11
            refine Calls.mono (KDn.out _) ?_
            rintro e v3 ⟨rfl, hbc⟩
            have BB3 : Hid (Below w9.heap.size w9 v3) := bel_on (Nat.le_refl _) BB2.out hbc
            have HV3 : Hid (v3.heap[V]? = some (.cells #[.int .i64 0, .int .i64 0, .int .i64 0, .int .i64 0, .int .i64 0, .int .i64 0, .int .i64 0, .int .i64 0, .slice none 0 0, .int .i64 0, .int .i64 0, .bool false, .int .i64 0, .int .i64 0, .string ⟨#[]⟩, .slice none 0 0, .int .i64 0] 40)) := row_on HV2.out hbc
            have hV3 : w9.heap.size ≤ V := hV2
            clear hbc BB2 HV2 hV2
            go_wp2_with fail
            refine hJ.out _ _ (row_on HX9.out BB3.out) (fun hHeld => ?_)
            clear hJ J
            try simp only [Act.put, List.setIfInBounds_toArray, List.set_cons_zero, List.set_cons_succ, List.getElem_toArray, List.getElem_cons_zero, List.getElem_cons_succ]
            refine wpAnyH_take (i := 4) (v := .string T1) rfl (by kernel_rfl) (by kernel_rfl) (by kernel_rfl) (fun _ _ _ h => h) (Or.inl ⟨by rfl, fun w_ hSw => exec_add _ _ _ _ rfl ⟨#[98]⟩ A T1 rfl rfl H1⟩) (by assumption) ?_
            try simp only [Act.put, List.setIfInBounds_toArray, List.set_cons_zero, List.set_cons_succ, List.getElem_toArray, List.getElem_cons_zero, List.getElem_cons_succ]
            refine wpAnyH_take (i := 5) (v := .string T2) rfl (by kernel_rfl) (by kernel_rfl) (by kernel_rfl) (fun _ _ _ h => h) (Or.inl ⟨by rfl, fun w_ hSw => exec_add _ _ _ _ rfl T1 ⟨#[10]⟩ T2 rfl rfl H2⟩) (by assumption) ?_
            try simp only [Act.put, List.setIfInBounds_toArray, List.set_cons_zero, List.set_cons_succ, List.getElem_toArray, List.getElem_cons_zero, List.getElem_cons_succ]
            refine wpAnyH_ready (rs := [8]) (by kernel_rfl) (by simp) ?_
            refine (AllReadyH.cons rfl (fun J hJ => ?_) AllReadyH.nil)
            go_simp
            go_at_call 11
            refine Calls.mono (KDd.out _) ?_
            rintro e v4 ⟨rfl, hbc⟩
            have BB4 : Hid (Below w9.heap.size w9 v4) := bel_on (Nat.le_refl _) BB3.out hbc
            have HV4 : Hid (v4.heap[V]? = some (.cells #[.int .i64 0, .int .i64 0, .int .i64 0, .int .i64 0, .int .i64 0, .int .i64 0, .int .i64 0, .int .i64 0, .slice none 0 0, .int .i64 0, .int .i64 0, .bool false, .int .i64 0, .int .i64 0, .string ⟨#[]⟩, .slice none 0 0, .int .i64 0] 40)) := row_on HV3.out hbc
            have hV4 : w9.heap.size ≤ V := hV3
            clear hbc BB3 HV3 hV3
            go_wp2_with fail
            refine hJ.out _ _ (row_on HX9.out BB4.out) (fun hHeld => ?_)
            clear hJ J
            try simp only [Act.put, List.setIfInBounds_toArray, List.set_cons_zero, List.set_cons_succ, List.getElem_toArray, List.getElem_cons_zero, List.getElem_cons_succ]
            refine wpAnyH_take (i := 9) (v := .string T3) rfl (by kernel_rfl) (by kernel_rfl) (by kernel_rfl) (fun _ _ _ h => h) (Or.inl ⟨by rfl, fun w_ hSw => exec_add _ _ _ _ rfl T2 B T3 rfl rfl H3⟩) (by assumption) ?_
            try simp only [Act.put, List.setIfInBounds_toArray, List.set_cons_zero, List.set_cons_succ, List.getElem_toArray, List.getElem_cons_zero, List.getElem_cons_succ]
            refine wpAnyH_take (i := 10) (v := .string T4) rfl (by kernel_rfl) (by kernel_rfl) (by kernel_rfl) (fun _ _ _ h => h) (Or.inl ⟨by rfl, fun w_ hSw => exec_add _ _ _ _ rfl T3 ⟨#[10]⟩ T4 rfl rfl H4⟩) (by assumption) ?_
            try simp only [Act.put, List.setIfInBounds_toArray, List.set_cons_zero, List.set_cons_succ, List.getElem_toArray, List.getElem_cons_zero, List.getElem_cons_succ]
            refine wpAnyH_ready (rs := [13]) (by kernel_rfl) (by simp) ?_
            refine (AllReadyH.cons rfl (fun J hJ => ?_) AllReadyH.nil)
            go_simp
            go_at_call 11
            refine Calls.mono (KDv.out _) ?_
            rintro e v5 ⟨rfl, hbc⟩
            have BB5 : Hid (Below w9.heap.size w9 v5) := bel_on (Nat.le_refl _) BB4.out hbc
            have HV5 : Hid (v5.heap[V]? = some (.cells #[.int .i64 0, .int .i64 0, .int .i64 0, .int .i64 0, .int .i64 0, .int .i64 0, .int .i64 0, .int .i64 0, .slice none 0 0, .int .i64 0, .int .i64 0, .bool false, .int .i64 0, .int .i64 0, .string ⟨#[]⟩, .slice none 0 0, .int .i64 0] 40)) := row_on HV4.out hbc
            have hV5 : w9.heap.size ≤ V := hV4
            clear hbc BB4 HV4 hV4
            go_wp2_with fail
            refine hJ.out _ _ (row_on HX9.out BB5.out) (fun hHeld => ?_)
            clear hJ J
            try simp only [Act.put, List.setIfInBounds_toArray, List.set_cons_zero, List.set_cons_succ, List.getElem_toArray, List.getElem_cons_zero, List.getElem_cons_succ]
            refine wpAnyH_take (i := 14) (v := .string T5) rfl (by kernel_rfl) (by kernel_rfl) (by kernel_rfl) (fun _ _ _ h => h) (Or.inl ⟨by rfl, fun w_ hSw => exec_add _ _ _ _ rfl T4 C T5 rfl rfl H5⟩) (by assumption) ?_
            try simp only [Act.put, List.setIfInBounds_toArray, List.set_cons_zero, List.set_cons_succ, List.getElem_toArray, List.getElem_cons_zero, List.getElem_cons_succ]
            refine wpAnyH_take (i := 15) (v := .string T6) rfl (by kernel_rfl) (by kernel_rfl) (by kernel_rfl) (fun _ _ _ h => h) (Or.inl ⟨by rfl, fun w_ hSw => exec_add _ _ _ _ rfl T5 ⟨#[10]⟩ T6 rfl rfl H6⟩) (by assumption) ?_
            try simp only [Act.put, List.setIfInBounds_toArray, List.set_cons_zero, List.set_cons_succ, List.getElem_toArray, List.getElem_cons_zero, List.getElem_cons_succ]
            refine wpAnyH_take (i := 16) (v := ?_) rfl (by kernel_rfl) (by kernel_rfl) (by kernel_rfl) (fun _ _ _ h => h) (Or.inl ⟨by rfl, ?_⟩) (by assumption) ?_
            rotate_left
            · intro w_ hSw; (try dsimp only at hSw); clear hSw; (try clear hHeld); go_simp <;> with_reducible rfl
            try simp only [Act.put, List.setIfInBounds_toArray, List.set_cons_zero, List.set_cons_succ, List.getElem_toArray, List.getElem_cons_zero, List.getElem_cons_succ]
            refine wpAnyH_ready (rs := [17]) (by kernel_rfl) (by simp) ?_
            refine (AllReadyH.cons rfl (fun J hJ => ?_) AllReadyH.nil)
            go_simp
            go_at_call 9
            refine Calls.mono (KB.out _ (Q.tab_below HT.out (bel_on (Nat.le_refl _) HB9.out BB5.out))) ?_
            rintro e v6 ⟨gb, nb, cb, gtb, tnb, ctb, rfl, hG, hU, hbc⟩
            have HU6 : Hid (OwnU v6 w9.heap.size gtb tnb ctb t2) := hU.mono BB5.out.size
            clear hG hU
            have BB6 : Hid (Below w9.heap.size w9 v6) := bel_on (Nat.le_refl _) BB5.out hbc
            have HV6 : Hid (v6.heap[V]? = some (.cells #[.int .i64 0, .int .i64 0, .int .i64 0, .int .i64 0, .int .i64 0, .int .i64 0, .int .i64 0, .int .i64 0, .slice none 0 0, .int .i64 0, .int .i64 0, .bool false, .int .i64 0, .int .i64 0, .string ⟨#[]⟩, .slice none 0 0, .int .i64 0] 40)) := row_on HV5.out hbc
            have hV6 : w9.heap.size ≤ V := hV5
            clear hbc BB5 HV5 hV5
            go_wp2_with fail
            refine hJ.out _ _ (row_on HX9.out BB6.out) (fun hHeld => ?_)
            clear hJ J
            try simp only [Act.put, List.setIfInBounds_toArray, List.set_cons_zero, List.set_cons_succ, List.getElem_toArray, List.getElem_cons_zero, List.getElem_cons_succ]
            refine wpAnyH_ready (rs := [19]) (by kernel_rfl) (by simp) ?_
            refine (AllReadyH.cons rfl (fun J hJ => ?_) AllReadyH.nil)
            refine storeR_any rfl rfl _ _ _ rfl V #[.int .i64 P2.s, .int .i64 P2.n, .int .i64 P2.d, .int .i64 P2.r, .int .i64 P2.l, .int .i64 P2.b, .int .i64 P2.g, .int .i64 P2.k, .slice (some ⟨gb, 0, none⟩) nb cb, .int .i64 al2, .int .i64 m2.a, .bool m2.b, .int .i64 m2.n, .int .i64 m2.d, .string ⟨m2.s.toArray⟩, .slice (some ⟨gtb, 0, none⟩) tnb ctb, .int .i64 rf2] rfl rfl (by kernel_rfl) (by kernel_rfl) HV6.out rfl ?_
            intro v99 hput
            have hVs : w9.heap.size ≤ V := hV6
            have HK9 := hput.far (row_on HX9.out BB6.out) (by have := row_lt HX9.out; omega)
            have BB99 : Hid (Below w9.heap.size w9 v99) := hput.2.2.2 _ _ hVs BB6.out
            have HV99 : Hid (v99.heap[V]? = some (.cells #[.int .i64 P2.s, .int .i64 P2.n, .int .i64 P2.d, .int .i64 P2.r, .int .i64 P2.l, .int .i64 P2.b, .int .i64 P2.g, .int .i64 P2.k, .slice (some ⟨gb, 0, none⟩) nb cb, .int .i64 al2, .int .i64 m2.a, .bool m2.b, .int .i64 m2.n, .int .i64 m2.d, .string ⟨m2.s.toArray⟩, .slice (some ⟨gtb, 0, none⟩) tnb ctb, .int .i64 rf2] 40)) := hput.1
            have HU99 : Hid (OwnU v99 w9.heap.size gtb tnb ctb t2) := own_putM HU6.out hput (own_ne HU6.out HV6.out (by decide))
            clear hput BB6 HV6 HU6
            refine hJ.out _ _ HK9 (fun hHeld => ?_)
            clear hJ J HK9
            try simp only [Act.put, List.setIfInBounds_toArray, List.set_cons_zero, List.set_cons_succ, List.getElem_toArray, List.getElem_cons_zero, List.getElem_cons_succ]
            clear hHeld
            refine wpAnyH_done (by kernel_rfl) ?_ _
            (try go_wp2_with fail)
            go_meet
            exact ⟨V, gb, nb, cb, gtb, tnb, ctb, rfl, hVs, BB99, HV99, HU99⟩
        · go_simp
          have BB1 : Hid (Below w9.heap.size w9 (v0.alloc (.cells #[.int .i64 0, .int .i64 0, .int .i64 0, .int .i64 0, .int .i64 0, .int .i64 0, .int .i64 0, .int .i64 0, .slice none 0 0, .int .i64 0, .int .i64 0, .bool false, .int .i64 0, .int .i64 0, .string ⟨#[]⟩, .slice none 0 0, .int .i64 0] 40))) := bel_on (Nat.le_refl _) BB0.out (alM _ _)
          have HV1 : Hid ((v0.alloc (.cells #[.int .i64 0, .int .i64 0, .int .i64 0, .int .i64 0, .int .i64 0, .int .i64 0, .int .i64 0, .int .i64 0, .slice none 0 0, .int .i64 0, .int .i64 0, .bool false, .int .i64 0, .int .i64 0, .string ⟨#[]⟩, .slice none 0 0, .int .i64 0] 40)).heap[v0.heap.size]? = some (.cells #[.int .i64 0, .int .i64 0, .int .i64 0, .int .i64 0, .int .i64 0, .int .i64 0, .int .i64 0, .int .i64 0, .slice none 0 0, .int .i64 0, .int .i64 0, .bool false, .int .i64 0, .int .i64 0, .string ⟨#[]⟩, .slice none 0 0, .int .i64 0] 40)) := heap_new v0 _
          have hV1 : w9.heap.size ≤ v0.heap.size := BB0.out.size
          refine hJ.out _ _ (row_on HX9.out BB1.out) (fun hHeld => ?_)
          clear hJ J BB0
          try simp only [Act.put, List.setIfInBounds_toArray, List.set_cons_zero, List.set_cons_succ, List.getElem_toArray, List.getElem_cons_zero, List.getElem_cons_succ]
          generalize v0.alloc (.cells #[.int .i64 0, .int .i64 0, .int .i64 0, .int .i64 0, .int .i64 0, .int .i64 0, .int .i64 0, .int .i64 0, .slice none 0 0, .int .i64 0, .int .i64 0, .bool false, .int .i64 0, .int .i64 0, .string ⟨#[]⟩, .slice none 0 0, .int .i64 0] 40) = v1 at *
          generalize v0.heap.size = V at *
          refine wpAnyH_ready (rs := [0]) (by kernel_rfl) (by simp) ?_
          refine (AllReadyH.cons rfl (fun J hJ => ?_) AllReadyH.nil)
          go_simp
          go_at_call 10
          refine (devNewI _).mono ?_
          rintro e v2 ⟨rfl, hbc⟩
          have BB2 : Hid (Below w9.heap.size w9 v2) := bel_on (Nat.le_refl _) BB1.out hbc
          have HV2 : Hid (v2.heap[V]? = some (.cells #[.int .i64 0, .int .i64 0, .int .i64 0, .int .i64 0, .int .i64 0, .int .i64 0, .int .i64 0, .int .i64 0, .slice none 0 0, .int .i64 0, .int .i64 0, .bool false, .int .i64 0, .int .i64 0, .string ⟨#[]⟩, .slice none 0 0, .int .i64 0] 40)) := row_on HV1.out hbc
          have hV2 : w9.heap.size ≤ V := hV1
          clear hbc BB1 HV1 hV1
          go_wp2_with fail
          refine hJ.out _ _ (row_on HX9.out BB2.out) (fun hHeld => ?_)
          clear hJ J
          try simp only [Act.put, List.setIfInBounds_toArray, List.set_cons_zero, List.set_cons_succ, List.getElem_toArray, List.getElem_cons_zero, List.getElem_cons_succ]
          refine wpAnyH_ready (rs := [3]) (by kernel_rfl) (by simp) ?_
          refine (AllReadyH.cons rfl (fun J hJ => ?_) AllReadyH.nil)
          go_simp
          go_at_call 11
          refine Calls.mono (KDn.out _) ?_
          rintro e v3 ⟨rfl, hbc⟩
          have BB3 : Hid (Below w9.heap.size w9 v3) := bel_on (Nat.le_refl _) BB2.out hbc
          have HV3 : Hid (v3.heap[V]? = some (.cells #[.int .i64 0, .int .i64 0, .int .i64 0, .int .i64 0, .int .i64 0, .int .i64 0, .int .i64 0, .int .i64 0, .slice none 0 0, .int .i64 0, .int .i64 0, .bool false, .int .i64 0, .int .i64 0, .string ⟨#[]⟩, .slice none 0 0, .int .i64 0] 40)) := row_on HV2.out hbc
          have hV3 : w9.heap.size ≤ V := hV2
          clear hbc BB2 HV2 hV2
          go_wp2_with fail
          refine hJ.out _ _ (row_on HX9.out BB3.out) (fun hHeld => ?_)
          clear hJ J
          try simp only [Act.put, List.setIfInBounds_toArray, List.set_cons_zero, List.set_cons_succ, List.getElem_toArray, List.getElem_cons_zero, List.getElem_cons_succ]
          refine wpAnyH_take (i := 4) (v := .string T1) rfl (by kernel_rfl) (by kernel_rfl) (by kernel_rfl) (fun _ _ _ h => h) (Or.inl ⟨by rfl, fun w_ hSw => exec_add _ _ _ _ rfl ⟨#[98]⟩ A T1 rfl rfl H1⟩) (by assumption) ?_
          try simp only [Act.put, List.setIfInBounds_toArray, List.set_cons_zero, List.set_cons_succ, List.getElem_toArray, List.getElem_cons_zero, List.getElem_cons_succ]
          refine wpAnyH_take (i := 5) (v := .string T2) rfl (by kernel_rfl) (by kernel_rfl) (by kernel_rfl) (fun _ _ _ h => h) (Or.inl ⟨by rfl, fun w_ hSw => exec_add _ _ _ _ rfl T1 ⟨#[10]⟩ T2 rfl rfl H2⟩) (by assumption) ?_
          try simp only [Act.put, List.setIfInBounds_toArray, List.set_cons_zero, List.set_cons_succ, List.getElem_toArray, List.getElem_cons_zero, List.getElem_cons_succ]
          refine wpAnyH_ready (rs := [8]) (by kernel_rfl) (by simp) ?_
          refine (AllReadyH.cons rfl (fun J hJ => ?_) AllReadyH.nil)
          go_simp
          go_at_call 11
          refine Calls.mono (KDd.out _) ?_
          rintro e v4 ⟨rfl, hbc⟩
          have BB4 : Hid (Below w9.heap.size w9 v4) := bel_on (Nat.le_refl _) BB3.out hbc
          have HV4 : Hid (v4.heap[V]? = some (.cells #[.int .i64 0, .int .i64 0, .int .i64 0, .int .i64 0, .int .i64 0, .int .i64 0, .int .i64 0, .int .i64 0, .slice none 0 0, .int .i64 0, .int .i64 0, .bool false, .int .i64 0, .int .i64 0, .string ⟨#[]⟩, .slice none 0 0, .int .i64 0] 40)) := row_on HV3.out hbc
          have hV4 : w9.heap.size ≤ V := hV3
          clear hbc BB3 HV3 hV3
          go_wp2_with fail
          refine hJ.out _ _ (row_on HX9.out BB4.out) (fun hHeld => ?_)
          clear hJ J
          try simp only [Act.put, List.setIfInBounds_toArray, List.set_cons_zero, List.set_cons_succ, List.getElem_toArray, List.getElem_cons_zero, List.getElem_cons_succ]
          refine wpAnyH_take (i := 9) (v := .string T3) rfl (by kernel_rfl) (by kernel_rfl) (by kernel_rfl) (fun _ _ _ h => h) (Or.inl ⟨by rfl, fun w_ hSw => exec_add _ _ _ _ rfl T2 B T3 rfl rfl H3⟩) (by assumption) ?_
          try simp only [Act.put, List.setIfInBounds_toArray, List.set_cons_zero, List.set_cons_succ, List.getElem_toArray, List.getElem_cons_zero, List.getElem_cons_succ]
          refine wpAnyH_take (i := 10) (v := .string T4) rfl (by kernel_rfl) (by kernel_rfl) (by kernel_rfl) (fun _ _ _ h => h) (Or.inl ⟨by rfl, fun w_ hSw => exec_add _ _ _ _ rfl T3 ⟨#[10]⟩ T4 rfl rfl H4⟩) (by assumption) ?_
          try simp only [Act.put, List.setIfInBounds_toArray, List.set_cons_zero, List.set_cons_succ, List.getElem_toArray, List.getElem_cons_zero, List.getElem_cons_succ]
          refine wpAnyH_ready (rs := [13]) (by kernel_rfl) (by simp) ?_
          refine (AllReadyH.cons rfl (fun J hJ => ?_) AllReadyH.nil)
          go_simp
          go_at_call 11
          refine Calls.mono (KDv.out _) ?_
          rintro e v5 ⟨rfl, hbc⟩
          have BB5 : Hid (Below w9.heap.size w9 v5) := bel_on (Nat.le_refl _) BB4.out hbc
          have HV5 : Hid (v5.heap[V]? = some (.cells #[.int .i64 0, .int .i64 0, .int .i64 0, .int .i64 0, .int .i64 0, .int .i64 0, .int .i64 0, .int .i64 0, .slice none 0 0, .int .i64 0, .int .i64 0, .bool false, .int .i64 0, .int .i64 0, .string ⟨#[]⟩, .slice none 0 0, .int .i64 0] 40)) := row_on HV4.out hbc
          have hV5 : w9.heap.size ≤ V := hV4
          clear hbc BB4 HV4 hV4
          go_wp2_with fail
          refine hJ.out _ _ (row_on HX9.out BB5.out) (fun hHeld => ?_)
          clear hJ J
          try simp only [Act.put, List.setIfInBounds_toArray, List.set_cons_zero, List.set_cons_succ, List.getElem_toArray, List.getElem_cons_zero, List.getElem_cons_succ]
          refine wpAnyH_take (i := 14) (v := .string T5) rfl (by kernel_rfl) (by kernel_rfl) (by kernel_rfl) (fun _ _ _ h => h) (Or.inl ⟨by rfl, fun w_ hSw => exec_add _ _ _ _ rfl T4 C T5 rfl rfl H5⟩) (by assumption) ?_
          try simp only [Act.put, List.setIfInBounds_toArray, List.set_cons_zero, List.set_cons_succ, List.getElem_toArray, List.getElem_cons_zero, List.getElem_cons_succ]
          refine wpAnyH_take (i := 15) (v := .string T6) rfl (by kernel_rfl) (by kernel_rfl) (by kernel_rfl) (fun _ _ _ h => h) (Or.inl ⟨by rfl, fun w_ hSw => exec_add _ _ _ _ rfl T5 ⟨#[10]⟩ T6 rfl rfl H6⟩) (by assumption) ?_
          try simp only [Act.put, List.setIfInBounds_toArray, List.set_cons_zero, List.set_cons_succ, List.getElem_toArray, List.getElem_cons_zero, List.getElem_cons_succ]
          refine wpAnyH_take (i := 16) (v := ?_) rfl (by kernel_rfl) (by kernel_rfl) (by kernel_rfl) (fun _ _ _ h => h) (Or.inl ⟨by rfl, ?_⟩) (by assumption) ?_
          rotate_left
          · intro w_ hSw; (try dsimp only at hSw); clear hSw; (try clear hHeld); go_simp <;> with_reducible rfl
          try simp only [Act.put, List.setIfInBounds_toArray, List.set_cons_zero, List.set_cons_succ, List.getElem_toArray, List.getElem_cons_zero, List.getElem_cons_succ]
          refine wpAnyH_ready (rs := [17]) (by kernel_rfl) (by simp) ?_
          refine (AllReadyH.cons rfl (fun J hJ => ?_) AllReadyH.nil)
          go_simp
          go_at_call 9
          refine Calls.mono (KB.out _ (Q.tab_below HT.out (bel_on (Nat.le_refl _) HB9.out BB5.out))) ?_
          rintro e v6 ⟨gb, nb, cb, gtb, tnb, ctb, rfl, hG, hU, hbc⟩
          have HU6 : Hid (OwnU v6 w9.heap.size gtb tnb ctb t2) := hU.mono BB5.out.size
          clear hG hU
          have BB6 : Hid (Below w9.heap.size w9 v6) := bel_on (Nat.le_refl _) BB5.out hbc
          have HV6 : Hid (v6.heap[V]? = some (.cells #[.int .i64 0, .int .i64 0, .int .i64 0, .int .i64 0, .int .i64 0, .int .i64 0, .int .i64 0, .int .i64 0, .slice none 0 0, .int .i64 0, .int .i64 0, .bool false, .int .i64 0, .int .i64 0, .string ⟨#[]⟩, .slice none 0 0, .int .i64 0] 40)) := row_on HV5.out hbc
          have hV6 : w9.heap.size ≤ V := hV5
          clear hbc BB5 HV5 hV5
          go_wp2_with fail
          refine hJ.out _ _ (row_on HX9.out BB6.out) (fun hHeld => ?_)
          clear hJ J
          try simp only [Act.put, List.setIfInBounds_toArray, List.set_cons_zero, List.set_cons_succ, List.getElem_toArray, List.getElem_cons_zero, List.getElem_cons_succ]
          refine wpAnyH_ready (rs := [19]) (by kernel_rfl) (by simp) ?_
          refine (AllReadyH.cons rfl (fun J hJ => ?_) AllReadyH.nil)
          refine storeR_any rfl rfl _ _ _ rfl V #[.int .i64 P2.s, .int .i64 P2.n, .int .i64 P2.d, .int .i64 P2.r, .int .i64 P2.l, .int .i64 P2.b, .int .i64 P2.g, .int .i64 P2.k, .slice (some ⟨gb, 0, none⟩) nb cb, .int .i64 al2, .int .i64 m2.a, .bool m2.b, .int .i64 m2.n, .int .i64 m2.d, .string ⟨m2.s.toArray⟩, .slice (some ⟨gtb, 0, none⟩) tnb ctb, .int .i64 rf2] rfl rfl (by kernel_rfl) (by kernel_rfl) HV6.out rfl ?_
          intro v99 hput
          have hVs : w9.heap.size ≤ V := hV6
          have HK9 := hput.far (row_on HX9.out BB6.out) (by have := row_lt HX9.out; omega)
          have BB99 : Hid (Below w9.heap.size w9 v99) := hput.2.2.2 _ _ hVs BB6.out
          have HV99 : Hid (v99.heap[V]? = some (.cells #[.int .i64 P2.s, .int .i64 P2.n, .int .i64 P2.d, .int .i64 P2.r, .int .i64 P2.l, .int .i64 P2.b, .int .i64 P2.g, .int .i64 P2.k, .slice (some ⟨gb, 0, none⟩) nb cb, .int .i64 al2, .int .i64 m2.a, .bool m2.b, .int .i64 m2.n, .int .i64 m2.d, .string ⟨m2.s.toArray⟩, .slice (some ⟨gtb, 0, none⟩) tnb ctb, .int .i64 rf2] 40)) := hput.1
          have HU99 : Hid (OwnU v99 w9.heap.size gtb tnb ctb t2) := own_putM HU6.out hput (own_ne HU6.out HV6.out (by decide))
          clear hput BB6 HV6 HU6
          refine hJ.out _ _ HK9 (fun hHeld => ?_)
          clear hJ J HK9
          try simp only [Act.put, List.setIfInBounds_toArray, List.set_cons_zero, List.set_cons_succ, List.getElem_toArray, List.getElem_cons_zero, List.getElem_cons_succ]
          clear hHeld
          refine wpAnyH_done (by kernel_rfl) ?_ _
          (try go_wp2_with fail)
          go_meet
          exact ⟨V, gb, nb, cb, gtb, tnb, ctb, rfl, hVs, BB99, HV99, HU99⟩
      case rest =>
        obtain ⟨X8, gb, nb, cb, gtb, tnb, ctb, rfl, h8, HBd, HV, HUb⟩ := hcut
        obtain ⟨w10, hw10⟩ : ∃ w10, wc = w10 := ⟨_, rfl⟩
        rw [hw10] at HBd HV HUb ⊢
        clear hw10 H1 H2 H3 H4 H5 H6 KB KDn KDd KDv
        have h79 := row_lt HD9.out
        have HA10 : Hid (w10.heap[X7]? = some (.cells #[.int .i64 P2.s, .int .i64 P2.n, .int .i64 P2.d, .int .i64 P2.r, .int .i64 P2.l, .int .i64 P2.b, .int .i64 P2.g, .int .i64 P2.k, .slice (some ⟨ga, 0, none⟩) na ca, .int .i64 al2, .int .i64 m2.a, .bool m2.b, .int .i64 m2.n, .int .i64 m2.d, .string ⟨m2.s.toArray⟩, .slice (some ⟨gta, 0, none⟩) tna cta, .int .i64 rf2] 40)) := row_on HD9.out HBd.out
        have HUa : Hid (OwnU w10 w6.heap.size gta tna cta t2) := HU9.out.on HBd.out
        have HP10 : Hid (w10.cell? ⟨gp, 0, none⟩ = some (.int .i64 p0) ∧ w10.cell? ⟨gp, 1, none⟩ = some (.int .i64 p1) ∧ w10.cell? ⟨gp, 2, none⟩ = some (.int .i64 p2)) := pl_on HP9.out HBd.out
        have HB10 : Hid (Below w1.heap.size w1 w10) := bel_on (Nat.le_refl _) HB9.out HBd.out
        clear HD9 HX9 HP9 HU9 HB9 HBd
        go_wp2_with fail
        refine (devNewI _).mono ?_
        rintro e w11 ⟨rfl, hbc⟩
        have HA11 : Hid (w11.heap[X7]? = some (.cells #[.int .i64 P2.s, .int .i64 P2.n, .int .i64 P2.d, .int .i64 P2.r, .int .i64 P2.l, .int .i64 P2.b, .int .i64 P2.g, .int .i64 P2.k, .slice (some ⟨ga, 0, none⟩) na ca, .int .i64 al2, .int .i64 m2.a, .bool m2.b, .int .i64 m2.n, .int .i64 m2.d, .string ⟨m2.s.toArray⟩, .slice (some ⟨gta, 0, none⟩) tna cta, .int .i64 rf2] 40)) := row_on HA10.out hbc
        have HV11 : Hid (w11.heap[X8]? = some (.cells #[.int .i64 P2.s, .int .i64 P2.n, .int .i64 P2.d, .int .i64 P2.r, .int .i64 P2.l, .int .i64 P2.b, .int .i64 P2.g, .int .i64 P2.k, .slice (some ⟨gb, 0, none⟩) nb cb, .int .i64 al2, .int .i64 m2.a, .bool m2.b, .int .i64 m2.n, .int .i64 m2.d, .string ⟨m2.s.toArray⟩, .slice (some ⟨gtb, 0, none⟩) tnb ctb, .int .i64 rf2] 40)) := row_on HV.out hbc
        have HUa11 : Hid (OwnU w11 w6.heap.size gta tna cta t2) := HUa.out.on hbc
        have HUb11 : Hid (OwnU w11 w9.heap.size gtb tnb ctb t2) := HUb.out.on hbc
        have HP11 : Hid (w11.cell? ⟨gp, 0, none⟩ = some (.int .i64 p0) ∧ w11.cell? ⟨gp, 1, none⟩ = some (.int .i64 p1) ∧ w11.cell? ⟨gp, 2, none⟩ = some (.int .i64 p2)) := pl_on HP10.out hbc
        have HB11 : Hid (Below w1.heap.size w1 w11) := bel_on (Nat.le_refl _) HB10.out hbc
        clear hbc HA10 HV HUa HUb HP10 HB10
        go_wp2_with fail
        refine (turnedL L (by omega) gp cp p0 p1 HPB0.out HPB1.out _ HP11.out.1 HP11.out.2.1).mono ?_
        rintro e w12 ⟨T, rfl, hTs, hTr, hbc⟩
        have HTR : Hid (Trn L T) := hTr hL0
        have HA12 : Hid (w12.heap[X7]? = some (.cells #[.int .i64 P2.s, .int .i64 P2.n, .int .i64 P2.d, .int .i64 P2.r, .int .i64 P2.l, .int .i64 P2.b, .int .i64 P2.g, .int .i64 P2.k, .slice (some ⟨ga, 0, none⟩) na ca, .int .i64 al2, .int .i64 m2.a, .bool m2.b, .int .i64 m2.n, .int .i64 m2.d, .string ⟨m2.s.toArray⟩, .slice (some ⟨gta, 0, none⟩) tna cta, .int .i64 rf2] 40)) := row_on HA11.out hbc
        have HV12 : Hid (w12.heap[X8]? = some (.cells #[.int .i64 P2.s, .int .i64 P2.n, .int .i64 P2.d, .int .i64 P2.r, .int .i64 P2.l, .int .i64 P2.b, .int .i64 P2.g, .int .i64 P2.k, .slice (some ⟨gb, 0, none⟩) nb cb, .int .i64 al2, .int .i64 m2.a, .bool m2.b, .int .i64 m2.n, .int .i64 m2.d, .string ⟨m2.s.toArray⟩, .slice (some ⟨gtb, 0, none⟩) tnb ctb, .int .i64 rf2] 40)) := row_on HV11.out hbc
        have HUa12 : Hid (OwnU w12 w6.heap.size gta tna cta t2) := HUa11.out.on hbc
        have HUb12 : Hid (OwnU w12 w9.heap.size gtb tnb ctb t2) := HUb11.out.on hbc
        have HB12 : Hid (Below w1.heap.size w1 w12) := bel_on (Nat.le_refl _) HB11.out hbc
        clear hbc hTr HA11 HV11 HUa11 HUb11 HP11 HB11
        go_wp2_with fail
        refine Calls.mono (KC2.out T _ HTR.out (Q.tab_below HT.out HB12.out)) ?_
        rintro e w13 ⟨gc, nc, cc, gtc, tnc, ctc, rfl, hG, hU, hbc⟩
        obtain ⟨X9, hX9⟩ : ∃ b, w13.heap.size = b := ⟨_, rfl⟩
        have h89 : X8 < X9 := by have h1 := row_lt HV12.out; have h2 := hbc.size; omega
        have h7x : X7 < X9 := by omega
        have HA14 : Hid ((w13.alloc (.cells #[.int .i64 0, .int .i64 0, .int .i64 0, .int .i64 0, .int .i64 0, .int .i64 0, .int .i64 0, .int .i64 0, .slice none 0 0, .int .i64 0, .int .i64 0, .bool false, .int .i64 0, .int .i64 0, .string ⟨#[]⟩, .slice none 0 0, .int .i64 0] 40)).heap[X7]? = some (.cells #[.int .i64 P2.s, .int .i64 P2.n, .int .i64 P2.d, .int .i64 P2.r, .int .i64 P2.l, .int .i64 P2.b, .int .i64 P2.g, .int .i64 P2.k, .slice (some ⟨ga, 0, none⟩) na ca, .int .i64 al2, .int .i64 m2.a, .bool m2.b, .int .i64 m2.n, .int .i64 m2.d, .string ⟨m2.s.toArray⟩, .slice (some ⟨gta, 0, none⟩) tna cta, .int .i64 rf2] 40)) := row_on (row_on HA12.out hbc) (alM _ _)
        have HV14 : Hid ((w13.alloc (.cells #[.int .i64 0, .int .i64 0, .int .i64 0, .int .i64 0, .int .i64 0, .int .i64 0, .int .i64 0, .int .i64 0, .slice none 0 0, .int .i64 0, .int .i64 0, .bool false, .int .i64 0, .int .i64 0, .string ⟨#[]⟩, .slice none 0 0, .int .i64 0] 40)).heap[X8]? = some (.cells #[.int .i64 P2.s, .int .i64 P2.n, .int .i64 P2.d, .int .i64 P2.r, .int .i64 P2.l, .int .i64 P2.b, .int .i64 P2.g, .int .i64 P2.k, .slice (some ⟨gb, 0, none⟩) nb cb, .int .i64 al2, .int .i64 m2.a, .bool m2.b, .int .i64 m2.n, .int .i64 m2.d, .string ⟨m2.s.toArray⟩, .slice (some ⟨gtb, 0, none⟩) tnb ctb, .int .i64 rf2] 40)) := row_on (row_on HV12.out hbc) (alM _ _)
        have HUa14 : Hid (OwnU (w13.alloc (.cells #[.int .i64 0, .int .i64 0, .int .i64 0, .int .i64 0, .int .i64 0, .int .i64 0, .int .i64 0, .int .i64 0, .slice none 0 0, .int .i64 0, .int .i64 0, .bool false, .int .i64 0, .int .i64 0, .string ⟨#[]⟩, .slice none 0 0, .int .i64 0] 40)) w6.heap.size gta tna cta t2) := (HUa12.out.on hbc).on (alM _ _)
        have HUb14 : Hid (OwnU (w13.alloc (.cells #[.int .i64 0, .int .i64 0, .int .i64 0, .int .i64 0, .int .i64 0, .int .i64 0, .int .i64 0, .int .i64 0, .slice none 0 0, .int .i64 0, .int .i64 0, .bool false, .int .i64 0, .int .i64 0, .string ⟨#[]⟩, .slice none 0 0, .int .i64 0] 40)) w9.heap.size gtb tnb ctb t2) := (HUb12.out.on hbc).on (alM _ _)
        have HB14 : Hid (Below w1.heap.size w1 (w13.alloc (.cells #[.int .i64 0, .int .i64 0, .int .i64 0, .int .i64 0, .int .i64 0, .int .i64 0, .int .i64 0, .int .i64 0, .slice none 0 0, .int .i64 0, .int .i64 0, .bool false, .int .i64 0, .int .i64 0, .string ⟨#[]⟩, .slice none 0 0, .int .i64 0] 40))) := bel_on (Nat.le_refl _) (bel_on (Nat.le_refl _) HB12.out hbc) (alM _ _)
        have HN14 : Hid ((w13.alloc (.cells #[.int .i64 0, .int .i64 0, .int .i64 0, .int .i64 0, .int .i64 0, .int .i64 0, .int .i64 0, .int .i64 0, .slice none 0 0, .int .i64 0, .int .i64 0, .bool false, .int .i64 0, .int .i64 0, .string ⟨#[]⟩, .slice none 0 0, .int .i64 0] 40)).heap[X9]? = some (.cells #[.int .i64 0, .int .i64 0, .int .i64 0, .int .i64 0, .int .i64 0, .int .i64 0, .int .i64 0, .int .i64 0, .slice none 0 0, .int .i64 0, .int .i64 0, .bool false, .int .i64 0, .int .i64 0, .string ⟨#[]⟩, .slice none 0 0, .int .i64 0] 40)) := by rw [← hX9]; exact heap_new w13 _
        have hw19 : w1.heap.size ≤ X9 := by omega
        clear hG hU hbc HA12 HV12 HUa12 HUb12 HB12 KC2
        go_wp2_with (refine listStoreD rfl rfl _ _ _ rfl rfl X9 #[.int .i64 newP.s, .int .i64 newP.n, .int .i64 newP.d, .int .i64 newP.r, .int .i64 newP.l, .int .i64 newP.b, .int .i64 newP.g, .int .i64 newP.k, .slice (some ⟨gc, 0, none⟩) nc cc, .int .i64 alc, .int .i64 mc.a, .bool mc.b, .int .i64 mc.n, .int .i64 mc.d, .string ⟨mc.s.toArray⟩, .slice (some ⟨gtc, 0, none⟩) tnc ctc, .int .i64 1] rfl rfl rfl (by kernel_rfl) HN14.out rfl ?_)
        intro w15 hput
        have HK15 : Hid (KL w15 w15.drew X7 X8 X9 (.cells #[.int .i64 P2.s, .int .i64 P2.n, .int .i64 P2.d, .int .i64 P2.r, .int .i64 P2.l, .int .i64 P2.b, .int .i64 P2.g, .int .i64 P2.k, .slice (some ⟨ga, 0, none⟩) na ca, .int .i64 al2, .int .i64 m2.a, .bool m2.b, .int .i64 m2.n, .int .i64 m2.d, .string ⟨m2.s.toArray⟩, .slice (some ⟨gta, 0, none⟩) tna cta, .int .i64 rf2] 40) (.cells #[.int .i64 P2.s, .int .i64 P2.n, .int .i64 P2.d, .int .i64 P2.r, .int .i64 P2.l, .int .i64 P2.b, .int .i64 P2.g, .int .i64 P2.k, .slice (some ⟨gb, 0, none⟩) nb cb, .int .i64 al2, .int .i64 m2.a, .bool m2.b, .int .i64 m2.n, .int .i64 m2.d, .string ⟨m2.s.toArray⟩, .slice (some ⟨gtb, 0, none⟩) tnb ctb, .int .i64 rf2] 40) (.cells #[.int .i64 newP.s, .int .i64 newP.n, .int .i64 newP.d, .int .i64 newP.r, .int .i64 newP.l, .int .i64 newP.b, .int .i64 newP.g, .int .i64 newP.k, .slice (some ⟨gc, 0, none⟩) nc cc, .int .i64 alc, .int .i64 mc.a, .bool mc.b, .int .i64 mc.n, .int .i64 mc.d, .string ⟨mc.s.toArray⟩, .slice (some ⟨gtc, 0, none⟩) tnc ctc, .int .i64 1] 40)) := ⟨hput.far HA14.out (by omega), hput.far HV14.out (by omega), hput.1, (Below.refl _ _).drew⟩
        have HUa15 : Hid (OwnU w15 w6.heap.size gta tna cta t2) := own_putM HUa14.out hput (own_ne HUa14.out HN14.out (by decide))
        have HUb15 : Hid (OwnU w15 w9.heap.size gtb tnb ctb t2) := own_putM HUb14.out hput (own_ne HUb14.out HN14.out (by decide))
        have HB15 : Hid (Below w1.heap.size w1 w15) := hput.2.2.2 _ _ hw19 HB14.out
        clear hput HA14 HV14 HUa14 HUb14 HB14 HN14 hX9
        have HE1 : Hid (t2.length = tna) := HUa15.out.len
        have HE2 : Hid (t2.length = tnb) := HUb15.out.len
        have htb : tnb = tna := by have h1 := HE1.out; have h2 := HE2.out; omega
        have htn : tna ≤ 1000 := by have h1 := HE1.out; have h2 := HTL.out; omega
        have KS : Hid (∀ w', Below w15.heap.size w15 w' → Calls Tryd.prog 13 #[.slice (some ⟨gta, 0, none⟩) tna cta, .slice (some ⟨gtb, 0, none⟩) tnb ctb] w' fun e w2 => e = .returned (.bool true) ∧ Below w'.heap.size w' w2) := fun w' hb' => by
          rw [htb]
          exact sameTk (some ⟨gta, 0, none⟩) (some ⟨gtb, 0, none⟩) t2 tna cta ctb HE1.out htn w' (HUa15.out.rd.keep hb' (Nat.le_refl _)) (HUb15.out.rd.keep hb' (Nat.le_refl _))
        clear htb htn HE1 HE2 HUa15 HUb15
        go_upto_region 10 with fail
        refine wp_region_held_drew (S := fun w' => KL w15 w' X7 X8 X9 (.cells #[.int .i64 P2.s, .int .i64 P2.n, .int .i64 P2.d, .int .i64 P2.r, .int .i64 P2.l, .int .i64 P2.b, .int .i64 P2.g, .int .i64 P2.k, .slice (some ⟨ga, 0, none⟩) na ca, .int .i64 al2, .int .i64 m2.a, .bool m2.b, .int .i64 m2.n, .int .i64 m2.d, .string ⟨m2.s.toArray⟩, .slice (some ⟨gta, 0, none⟩) tna cta, .int .i64 rf2] 40) (.cells #[.int .i64 P2.s, .int .i64 P2.n, .int .i64 P2.d, .int .i64 P2.r, .int .i64 P2.l, .int .i64 P2.b, .int .i64 P2.g, .int .i64 P2.k, .slice (some ⟨gb, 0, none⟩) nb cb, .int .i64 al2, .int .i64 m2.a, .bool m2.b, .int .i64 m2.n, .int .i64 m2.d, .string ⟨m2.s.toArray⟩, .slice (some ⟨gtb, 0, none⟩) tnb ctb, .int .i64 rf2] 40) (.cells #[.int .i64 newP.s, .int .i64 newP.n, .int .i64 newP.d, .int .i64 newP.r, .int .i64 newP.l, .int .i64 newP.b, .int .i64 newP.g, .int .i64 newP.k, .slice (some ⟨gc, 0, none⟩) nc cc, .int .i64 alc, .int .i64 mc.a, .bool mc.b, .int .i64 mc.n, .int .i64 mc.d, .string ⟨mc.s.toArray⟩, .slice (some ⟨gtc, 0, none⟩) tnc ctc, .int .i64 1] 40)) (by kernel_rfl) HK15.out (fun hHeld => ?_)
        obtain ⟨v0, hv0⟩ : ∃ v0, w15.drew = v0 := ⟨_, rfl⟩
        have HK := HK15.out
        rw [hv0] at HK hHeld ⊢
        clear hv0 HK15
        refine wpAnyH_take (i := 0) (v := ?_) rfl (by kernel_rfl) (by kernel_rfl) (by kernel_rfl) (fun _ _ _ h => h) (Or.inl ⟨by rfl, ?_⟩) (by assumption) ?_
        rotate_left
        · intro w_ hSw; (try dsimp only at hSw); clear hSw; (try clear hHeld); go_simp <;> with_reducible rfl
        try simp only [Act.put, List.setIfInBounds_toArray, List.set_cons_zero, List.set_cons_succ, List.getElem_toArray, List.getElem_cons_zero, List.getElem_cons_succ]
        refine wpAnyH_take (i := 1) (v := ?_) rfl (by kernel_rfl) (by kernel_rfl) (by kernel_rfl) (fun _ _ _ h => h) (Or.inl ⟨by rfl, ?_⟩) (by assumption) ?_
        rotate_left
        · intro w_ hSw; (try dsimp only at hSw); clear hSw; (try clear hHeld); go_simp <;> with_reducible rfl
        try simp only [Act.put, List.setIfInBounds_toArray, List.set_cons_zero, List.set_cons_succ, List.getElem_toArray, List.getElem_cons_zero, List.getElem_cons_succ]
        refine wpAnyH_take (i := 2) (v := ?_) rfl (by kernel_rfl) (by kernel_rfl) (by kernel_rfl) (fun _ _ _ h => h) (Or.inl ⟨by rfl, ?_⟩) (by assumption) ?_
        rotate_left
        · intro w_ hSw; (try dsimp only at hSw); clear hSw; (try clear hHeld); go_simp <;> with_reducible rfl
        try simp only [Act.put, List.setIfInBounds_toArray, List.set_cons_zero, List.set_cons_succ, List.getElem_toArray, List.getElem_cons_zero, List.getElem_cons_succ]
        refine wpAnyH_take (i := 3) (v := ?_) rfl (by kernel_rfl) (by kernel_rfl) (by kernel_rfl) (fun _ _ _ h => h) (Or.inl ⟨by rfl, ?_⟩) (by assumption) ?_
        rotate_left
        · intro w_ hSw; (try dsimp only at hSw); have f0 := box17_cells hSw.1; clear hSw; (try clear hHeld); go_simp <;> with_reducible rfl
        try simp only [Act.put, List.setIfInBounds_toArray, List.set_cons_zero, List.set_cons_succ, List.getElem_toArray, List.getElem_cons_zero, List.getElem_cons_succ]
        refine wpAnyH_take (i := 4) (v := ?_) rfl (by kernel_rfl) (by kernel_rfl) (by kernel_rfl) (fun _ _ _ h => h) (Or.inl ⟨by rfl, ?_⟩) (by assumption) ?_
        rotate_left
        · intro w_ hSw; (try dsimp only at hSw); clear hSw; (try clear hHeld); go_simp <;> with_reducible rfl
        try simp only [Act.put, List.setIfInBounds_toArray, List.set_cons_zero, List.set_cons_succ, List.getElem_toArray, List.getElem_cons_zero, List.getElem_cons_succ]
        refine wpAnyH_take (i := 5) (v := ?_) rfl (by kernel_rfl) (by kernel_rfl) (by kernel_rfl) (fun _ _ _ h => h) (Or.inl ⟨by rfl, ?_⟩) (by assumption) ?_
        rotate_left
        · intro w_ hSw; (try dsimp only at hSw); have f0 := box17_cells hSw.2.1; clear hSw; (try clear hHeld); go_simp <;> with_reducible rfl
        try simp only [Act.put, List.setIfInBounds_toArray, List.set_cons_zero, List.set_cons_succ, List.getElem_toArray, List.getElem_cons_zero, List.getElem_cons_succ]
        refine wpAnyH_take (i := 6) (v := ?_) rfl (by kernel_rfl) (by kernel_rfl) (by kernel_rfl) (fun _ _ _ h => h) (Or.inl ⟨by rfl, ?_⟩) (by assumption) ?_
        rotate_left
        · intro w_ hSw; (try dsimp only at hSw); clear hSw; (try clear hHeld); go_simp <;> with_reducible rfl
        try simp only [Act.put, List.setIfInBounds_toArray, List.set_cons_zero, List.set_cons_succ, List.getElem_toArray, List.getElem_cons_zero, List.getElem_cons_succ]
        refine wpAnyH_take (i := 7) (v := ?_) rfl (by kernel_rfl) (by kernel_rfl) (by kernel_rfl) (fun _ _ _ h => h) (Or.inl ⟨by rfl, ?_⟩) (by assumption) ?_
        rotate_left
        · intro w_ hSw; (try dsimp only at hSw); clear hSw; (try clear hHeld); go_simp <;> with_reducible rfl
        try simp only [Act.put, List.setIfInBounds_toArray, List.set_cons_zero, List.set_cons_succ, List.getElem_toArray, List.getElem_cons_zero, List.getElem_cons_succ]
        refine wpAnyH_take (i := 8) (v := ?_) rfl (by kernel_rfl) (by kernel_rfl) (by kernel_rfl) (fun _ _ _ h => h) (Or.inl ⟨by rfl, ?_⟩) (by assumption) ?_
        rotate_left
        · intro w_ hSw; (try dsimp only at hSw); clear hSw; (try clear hHeld); go_simp <;> with_reducible rfl
        try simp only [Act.put, List.setIfInBounds_toArray, List.set_cons_zero, List.set_cons_succ, List.getElem_toArray, List.getElem_cons_zero, List.getElem_cons_succ]
        refine wpAnyH_take (i := 9) (v := ?_) rfl (by kernel_rfl) (by kernel_rfl) (by kernel_rfl) (fun _ _ _ h => h) (Or.inl ⟨by rfl, ?_⟩) (by assumption) ?_
        rotate_left
        · intro w_ hSw; (try dsimp only at hSw); clear hSw; (try clear hHeld); go_simp <;> with_reducible rfl
        try simp only [Act.put, List.setIfInBounds_toArray, List.set_cons_zero, List.set_cons_succ, List.getElem_toArray, List.getElem_cons_zero, List.getElem_cons_succ]
        refine wpAnyH_take (i := 10) (v := ?_) rfl (by kernel_rfl) (by kernel_rfl) (by kernel_rfl) (fun _ _ _ h => h) (Or.inl ⟨by rfl, ?_⟩) (by assumption) ?_
        rotate_left
        · intro w_ hSw; (try dsimp only at hSw); have f0 := box17_cells hSw.1; clear hSw; (try clear hHeld); go_simp <;> with_reducible rfl
        try simp only [Act.put, List.setIfInBounds_toArray, List.set_cons_zero, List.set_cons_succ, List.getElem_toArray, List.getElem_cons_zero, List.getElem_cons_succ]
        refine wpAnyH_take (i := 11) (v := ?_) rfl (by kernel_rfl) (by kernel_rfl) (by kernel_rfl) (fun _ _ _ h => h) (Or.inl ⟨by rfl, ?_⟩) (by assumption) ?_
        rotate_left
        · intro w_ hSw; (try dsimp only at hSw); clear hSw; (try clear hHeld); go_simp <;> with_reducible rfl
        try simp only [Act.put, List.setIfInBounds_toArray, List.set_cons_zero, List.set_cons_succ, List.getElem_toArray, List.getElem_cons_zero, List.getElem_cons_succ]
        refine wpAnyH_take (i := 12) (v := ?_) rfl (by kernel_rfl) (by kernel_rfl) (by kernel_rfl) (fun _ _ _ h => h) (Or.inl ⟨by rfl, ?_⟩) (by assumption) ?_
        rotate_left
        · intro w_ hSw; (try dsimp only at hSw); have f0 := box17_cells hSw.2.1; clear hSw; (try clear hHeld); go_simp <;> with_reducible rfl
        try simp only [Act.put, List.setIfInBounds_toArray, List.set_cons_zero, List.set_cons_succ, List.getElem_toArray, List.getElem_cons_zero, List.getElem_cons_succ]
        refine wpAnyH_ready (rs := [13]) (by kernel_rfl) (by simp) ?_
        refine (AllReadyH.cons rfl (fun J hJ => ?_) AllReadyH.nil)
        go_simp
        go_at_call 13
        refine (KS.out _ HK.2.2.2).mono ?_
        rintro e v1 ⟨rfl, hbc⟩
        have HK1 := HK.on hbc
        clear hbc HK
        go_wp2_with fail
        refine hJ.out _ _ HK1 (fun hHeld => ?_)
        clear hJ J
        try simp only [Act.put, List.setIfInBounds_toArray, List.set_cons_zero, List.set_cons_succ, List.getElem_toArray, List.getElem_cons_zero, List.getElem_cons_succ]
        refine wpAnyH_take (i := 14) (v := ?_) rfl (by kernel_rfl) (by kernel_rfl) (by kernel_rfl) (fun _ _ _ h => h) (Or.inl ⟨by rfl, ?_⟩) (by assumption) ?_
        rotate_left
        · intro w_ hSw; (try dsimp only at hSw); clear hSw; (try clear hHeld); go_simp <;> with_reducible rfl
        try simp only [Act.put, List.setIfInBounds_toArray, List.set_cons_zero, List.set_cons_succ, List.getElem_toArray, List.getElem_cons_zero, List.getElem_cons_succ]
        refine wpAnyH_take (i := 15) (v := ?_) rfl (by kernel_rfl) (by kernel_rfl) (by kernel_rfl) (fun _ _ _ h => h) (Or.inl ⟨by rfl, ?_⟩) (by assumption) ?_
        rotate_left
        · intro w_ hSw; (try dsimp only at hSw); clear hSw; (try clear hHeld); go_simp <;> with_reducible rfl
        try simp only [Act.put, List.setIfInBounds_toArray, List.set_cons_zero, List.set_cons_succ, List.getElem_toArray, List.getElem_cons_zero, List.getElem_cons_succ]
        refine wpAnyH_take (i := 16) (v := ?_) rfl (by kernel_rfl) (by kernel_rfl) (by kernel_rfl) (fun _ _ _ h => h) (Or.inl ⟨by rfl, ?_⟩) (by assumption) ?_
        rotate_left
        · intro w_ hSw; (try dsimp only at hSw); clear hSw; (try clear hHeld); go_simp <;> with_reducible rfl
        try simp only [Act.put, List.setIfInBounds_toArray, List.set_cons_zero, List.set_cons_succ, List.getElem_toArray, List.getElem_cons_zero, List.getElem_cons_succ]
        refine wpAnyH_take (i := 17) (v := ?_) rfl (by kernel_rfl) (by kernel_rfl) (by kernel_rfl) (fun _ _ _ h => h) (Or.inl ⟨by rfl, ?_⟩) (by assumption) ?_
        rotate_left
        · intro w_ hSw; (try dsimp only at hSw); clear hSw; (try clear hHeld); go_simp <;> with_reducible rfl
        try simp only [Act.put, List.setIfInBounds_toArray, List.set_cons_zero, List.set_cons_succ, List.getElem_toArray, List.getElem_cons_zero, List.getElem_cons_succ]
        refine wpAnyH_take (i := 18) (v := ?_) rfl (by kernel_rfl) (by kernel_rfl) (by kernel_rfl) (fun _ _ _ h => h) (Or.inl ⟨by rfl, ?_⟩) (by assumption) ?_
        rotate_left
        · intro w_ hSw; (try dsimp only at hSw); have f0 := box17_cells hSw.1; clear hSw; (try clear hHeld); go_simp <;> with_reducible rfl
        try simp only [Act.put, List.setIfInBounds_toArray, List.set_cons_zero, List.set_cons_succ, List.getElem_toArray, List.getElem_cons_zero, List.getElem_cons_succ]
        refine wpAnyH_take (i := 19) (v := ?_) rfl (by kernel_rfl) (by kernel_rfl) (by kernel_rfl) (fun _ _ _ h => h) (Or.inl ⟨by rfl, ?_⟩) (by assumption) ?_
        rotate_left
        · intro w_ hSw; (try dsimp only at hSw); clear hSw; (try clear hHeld); go_simp <;> with_reducible rfl
        try simp only [Act.put, List.setIfInBounds_toArray, List.set_cons_zero, List.set_cons_succ, List.getElem_toArray, List.getElem_cons_zero, List.getElem_cons_succ]
        refine wpAnyH_take (i := 20) (v := ?_) rfl (by kernel_rfl) (by kernel_rfl) (by kernel_rfl) (fun _ _ _ h => h) (Or.inl ⟨by rfl, ?_⟩) (by assumption) ?_
        rotate_left
        · intro w_ hSw; (try dsimp only at hSw); clear hSw; (try clear hHeld); go_simp <;> with_reducible rfl
        try simp only [Act.put, List.setIfInBounds_toArray, List.set_cons_zero, List.set_cons_succ, List.getElem_toArray, List.getElem_cons_zero, List.getElem_cons_succ]
        refine wpAnyH_take (i := 21) (v := ?_) rfl (by kernel_rfl) (by kernel_rfl) (by kernel_rfl) (fun _ _ _ h => h) (Or.inl ⟨by rfl, ?_⟩) (by assumption) ?_
        rotate_left
        · intro w_ hSw; (try dsimp only at hSw); clear hSw; (try clear hHeld); go_simp <;> with_reducible rfl
        try simp only [Act.put, List.setIfInBounds_toArray, List.set_cons_zero, List.set_cons_succ, List.getElem_toArray, List.getElem_cons_zero, List.getElem_cons_succ]
        refine wpAnyH_take (i := 22) (v := ?_) rfl (by kernel_rfl) (by kernel_rfl) (by kernel_rfl) (fun _ _ _ h => h) (Or.inl ⟨by rfl, ?_⟩) (by assumption) ?_
        rotate_left
        · intro w_ hSw; (try dsimp only at hSw); clear hSw; (try clear hHeld); go_simp <;> with_reducible rfl
        try simp only [Act.put, List.setIfInBounds_toArray, List.set_cons_zero, List.set_cons_succ, List.getElem_toArray, List.getElem_cons_zero, List.getElem_cons_succ]
        refine wpAnyH_take (i := 23) (v := ?_) rfl (by kernel_rfl) (by kernel_rfl) (by kernel_rfl) (fun _ _ _ h => h) (Or.inl ⟨by rfl, ?_⟩) (by assumption) ?_
        rotate_left
        · intro w_ hSw; (try dsimp only at hSw); have f0 := box17_cells hSw.2.2.1; clear hSw; (try clear hHeld); go_simp <;> with_reducible rfl
        try simp only [Act.put, List.setIfInBounds_toArray, List.set_cons_zero, List.set_cons_succ, List.getElem_toArray, List.getElem_cons_zero, List.getElem_cons_succ]
        refine wpAnyH_take (i := 24) (v := ?_) rfl (by kernel_rfl) (by kernel_rfl) (by kernel_rfl) (fun _ _ _ h => h) (Or.inl ⟨by rfl, ?_⟩) (by assumption) ?_
        rotate_left
        · intro w_ hSw; (try dsimp only at hSw); clear hSw; (try clear hHeld); go_simp <;> with_reducible rfl
        try simp only [Act.put, List.setIfInBounds_toArray, List.set_cons_zero, List.set_cons_succ, List.getElem_toArray, List.getElem_cons_zero, List.getElem_cons_succ]
        refine wpAnyH_take (i := 25) (v := ?_) rfl (by kernel_rfl) (by kernel_rfl) (by kernel_rfl) (fun _ _ _ h => h) (Or.inl ⟨by rfl, ?_⟩) (by assumption) ?_
        rotate_left
        · intro w_ hSw; (try dsimp only at hSw); clear hSw; (try clear hHeld); go_simp <;> with_reducible rfl
        try simp only [Act.put, List.setIfInBounds_toArray, List.set_cons_zero, List.set_cons_succ, List.getElem_toArray, List.getElem_cons_zero, List.getElem_cons_succ]
        refine wpAnyH_take (i := 26) (v := ?_) rfl (by kernel_rfl) (by kernel_rfl) (by kernel_rfl) (fun _ _ _ h => h) (Or.inl ⟨by rfl, ?_⟩) (by assumption) ?_
        rotate_left
        · intro w_ hSw; (try dsimp only at hSw); clear hSw; (try clear hHeld); go_simp <;> with_reducible rfl
        try simp only [Act.put, List.setIfInBounds_toArray, List.set_cons_zero, List.set_cons_succ, List.getElem_toArray, List.getElem_cons_zero, List.getElem_cons_succ]
        refine wpAnyH_take (i := 27) (v := ?_) rfl (by kernel_rfl) (by kernel_rfl) (by kernel_rfl) (fun _ _ _ h => h) (Or.inl ⟨by rfl, ?_⟩) (by assumption) ?_
        rotate_left
        · intro w_ hSw; (try dsimp only at hSw); clear hSw; (try clear hHeld); go_simp <;> with_reducible rfl
        try simp only [Act.put, List.setIfInBounds_toArray, List.set_cons_zero, List.set_cons_succ, List.getElem_toArray, List.getElem_cons_zero, List.getElem_cons_succ]
        refine wpAnyH_take (i := 28) (v := ?_) rfl (by kernel_rfl) (by kernel_rfl) (by kernel_rfl) (fun _ _ _ h => h) (Or.inl ⟨by rfl, ?_⟩) (by assumption) ?_
        rotate_left
        · intro w_ hSw; (try dsimp only at hSw); have f0 := box17_cells hSw.2.2.1; dsimp only [newP] at f0; clear hSw; (try clear hHeld); go_simp <;> with_reducible rfl
        try simp only [Act.put, List.setIfInBounds_toArray, List.set_cons_zero, List.set_cons_succ, List.getElem_toArray, List.getElem_cons_zero, List.getElem_cons_succ]
        refine wpAnyH_ready (rs := [29]) (by kernel_rfl) (by simp) ?_
        refine (AllReadyH.cons rfl (fun J hJ => ?_) AllReadyH.nil)
        go_simp
        go_at_call 14
        refine (newdI _).mono ?_
        rintro e v2 ⟨rfl, hbc⟩
        have HK2 := HK1.on hbc
        clear hbc HK1
        go_wp2_with fail
        refine hJ.out _ _ HK2 (fun hHeld => ?_)
        clear hJ J
        try simp only [Act.put, List.setIfInBounds_toArray, List.set_cons_zero, List.set_cons_succ, List.getElem_toArray, List.getElem_cons_zero, List.getElem_cons_succ]
        refine wpAnyH_take (i := 30) (v := ?_) rfl (by kernel_rfl) (by kernel_rfl) (by kernel_rfl) (fun _ _ _ h => h) (Or.inl ⟨by rfl, ?_⟩) (by assumption) ?_
        rotate_left
        · intro w_ hSw; (try dsimp only at hSw); clear hSw; (try clear hHeld); go_simp <;> with_reducible rfl
        try simp only [Act.put, List.setIfInBounds_toArray, List.set_cons_zero, List.set_cons_succ, List.getElem_toArray, List.getElem_cons_zero, List.getElem_cons_succ]
        refine wpAnyH_take (i := 31) (v := ?_) rfl (by kernel_rfl) (by kernel_rfl) (by kernel_rfl) (fun _ _ _ h => h) (Or.inl ⟨by rfl, ?_⟩) (by assumption) ?_
        rotate_left
        · intro w_ hSw; (try dsimp only at hSw); clear hSw; (try clear hHeld); go_simp <;> with_reducible rfl
        try simp only [Act.put, List.setIfInBounds_toArray, List.set_cons_zero, List.set_cons_succ, List.getElem_toArray, List.getElem_cons_zero, List.getElem_cons_succ]
        refine wpAnyH_take (i := 32) (v := ?_) rfl (by kernel_rfl) (by kernel_rfl) (by kernel_rfl) (fun _ _ _ h => h) (Or.inl ⟨by rfl, ?_⟩) (by assumption) ?_
        rotate_left
        · intro w_ hSw; (try dsimp only at hSw); clear hSw; (try clear hHeld); go_simp <;> with_reducible rfl
        try simp only [Act.put, List.setIfInBounds_toArray, List.set_cons_zero, List.set_cons_succ, List.getElem_toArray, List.getElem_cons_zero, List.getElem_cons_succ]
        clear hHeld
        refine wpAnyH_done (by kernel_rfl) ?_ _
        have HBf : Hid (Below w1.heap.size w1 v2) := bel_on (Nat.le_refl _) HB15.out HK2.2.2.2
        go_wp2
        go_ret
        exact ⟨rfl, HBf.out⟩
end Go.Proofs.YtbcegpncledolaaDoor
