/-
  FnVolumes over bytes that are few enough.
-/
import Derived.Test.YtpjnmkijndmemaaVolM
import Derived.Test.YtpjnmkijndmemaaPmL
import Derived.Deep.CutBlock
import Derived.Deep.DeepCutAuto
namespace Go.Proofs.Ytpjnmkijndmemaa
open Go.RowKit Go.PlainAid
set_option linter.unusedVariables false
set_option linter.unusedSimpArgs false

/-- what stands while the first order is taken -/
structure P6 (H C : Nat) (w0 : World) (P T : Value) (x : Bool) (c : Fin 3) (t0 t1 t3 : Value) (w : World) : Prop where
  c1 : 0 < c → t0 = P
  c2 : 1 < c → t1 = T
  x : x = true → ∃ b, t3 = .pointer (some ⟨b, 0, none⟩) ∧ w.heap[b]? = some (.cells #[.int .i64 0, .int .i64 0, .int .i64 0, .int .i64 0, .int .i64 0, .int .i64 0, .int .i64 0, .int .i64 0] 27) ∧ H ≤ b
  bel : Below C w0 w
  le : C ≤ H
  sz : H ≤ w.heap.size
theorem P6.on {H C : Nat} {w0 : World} {P T : Value} {x : Bool} {c : Fin 3} {t0 t1 t3 : Value} {w w' : World} (h : P6 H C w0 P T x c t0 t1 t3 w) (hb : Below w.heap.size w w') : P6 H C w0 P T x c t0 t1 t3 w' :=
  ⟨h.c1, h.c2, fun e => by obtain ⟨b, e1, e2, e3⟩ := h.x e; exact ⟨b, e1, row_on e2 hb, e3⟩, h.bel.trans (hb.mono (Nat.le_trans h.le h.sz)), h.le, Nat.le_trans h.sz hb.size⟩
theorem P6.new {H C : Nat} {w0 : World} {P T : Value} {c : Fin 3} {t0 t1 t3 : Value} {w : World} (h : P6 H C w0 P T false c t0 t1 t3 w) : P6 H C w0 P T true c t0 t1 (.pointer (some ⟨w.heap.size, 0, none⟩)) (w.alloc (.cells #[.int .i64 0, .int .i64 0, .int .i64 0, .int .i64 0, .int .i64 0, .int .i64 0, .int .i64 0, .int .i64 0] 27)) :=
  ⟨h.c1, h.c2, fun _ => ⟨_, rfl, heap_new w _, h.sz⟩, h.bel.trans ((alP w _).mono (Nat.le_trans h.le h.sz)), h.le, Nat.le_trans h.sz (alP w _).size⟩
theorem set4_row {w : World} {g : Nat} {T : TypeId} {u0 u1 u2 u3 : Value} (z0 z1 z2 z3 : Int) (hg : w.heap[g]? = some (.cells #[u0, u1, u2, u3] T)) : ((((w.setCell ⟨g, 0, none⟩ (.int .i64 z0)).setCell ⟨g, 1, none⟩ (.int .i64 z1)).setCell ⟨g, 2, none⟩ (.int .i64 z2)).setCell ⟨g, 3, none⟩ (.int .i64 z3)).heap[g]? = some (.cells #[.int .i64 z0, .int .i64 z1, .int .i64 z2, .int .i64 z3] T) := by
  have h0 : (w.setCell ⟨g, 0, none⟩ (.int .i64 z0)).heap[g]? = some (.cells #[.int .i64 z0, u1, u2, u3] T) := set_rowP hg 0 (.int .i64 z0)
  have h1 : ((w.setCell ⟨g, 0, none⟩ (.int .i64 z0)).setCell ⟨g, 1, none⟩ (.int .i64 z1)).heap[g]? = some (.cells #[.int .i64 z0, .int .i64 z1, u2, u3] T) := set_rowP h0 1 (.int .i64 z1)
  have h2 : (((w.setCell ⟨g, 0, none⟩ (.int .i64 z0)).setCell ⟨g, 1, none⟩ (.int .i64 z1)).setCell ⟨g, 2, none⟩ (.int .i64 z2)).heap[g]? = some (.cells #[.int .i64 z0, .int .i64 z1, .int .i64 z2, u3] T) := set_rowP h1 2 (.int .i64 z2)
  exact set_rowP h2 3 (.int .i64 z3)

set_option maxRecDepth 100000 in
set_option maxHeartbeats 20000000 in
theorem vols_in (a : Option Addr) (len cap : Nat) (hb : len ≤ 1048576) (w : World) (hcode : CodeOk w w.heap.size a len) :
    Calls Try.prog 4 #[.slice a len cap] w fun e w' => e = .returned (.bool true) ∧ Below w.heap.size w w' := by
  have HC : Hid (CodeOk w w.heap.size a len) := hcode
  have KN : Hid (∀ w, Calls Try.prog 24 #[] w fun e w' => e = .returned (.agg #[.int .i64 0, .int .i64 0, .int .i64 1, .int .i64 0, .int .i64 0, .int .i64 0, .int .i64 0, .int .i64 0]) ∧ Below w.heap.size w w') := fun w => newI w
  clear hcode
  go_enter Try.func4, Try.ntmps4
  go_wp2_with fail
  refine (big5 a len cap (by omega) _).mono ?_
  rintro e w1 ⟨rfl, rfl⟩
  rw [decide_eq_false (by omega)]
  go_wp2_with fail
  refine (places7 w1.heap.size a len cap _ HC.out (Nat.le_refl _)).mono ?_
  rintro e w2 ⟨g, cp, p0, p1, p2, p3, rfl, hp0, hp1, hp2, _, hg, c0, c1, c2, _, hgl, hb2⟩
  obtain ⟨d, hd⟩ : ∃ d, 1 + p0 % 9 = d := ⟨_, rfl⟩
  obtain ⟨v, hv⟩ : ∃ v, 1 + p2 % 60 = v := ⟨_, rfl⟩
  obtain ⟨n, hn⟩ : ∃ n, 1 + p1 % (3 * d) = n := ⟨_, rfl⟩
  have hd1 : 1 ≤ d ∧ d ≤ 9 := by omega
  have hV : VolR n d v := by
    have h1 := Int.emod_nonneg p1 (show 3 * d ≠ 0 by omega)
    have h2 := Int.emod_lt_of_pos p1 (show 0 < 3 * d by omega)
    unfold VolR
    omega
  have HV : Hid (VolR n d v) := hV
  have KK : Hid (∀ w, Calls Try.prog 16 #[.agg #[.int .i64 0, .int .i64 0, .int .i64 1, .int .i64 0, .int .i64 0, .int .i64 0, .int .i64 0, .int .i64 0], .agg #[.int .i64 1, .int .i64 n, .int .i64 d, .int .i64 v]] w fun e w' => e = .returned (.tuple #[.agg #[.int .i64 1, .int .i64 n, .int .i64 d, .int .i64 0, .int .i64 v, .int .i64 0, .int .i64 0, .int .i64 0], .bool true]) ∧ Below w.heap.size w w') := fun w => by
    have h := takeI newP 1 n d v w
    rw [vol_take HV.out] at h
    exact h
  have e0 : 1 + p0.tmod 9 = d := by rw [Int.tmod_eq_emod_of_nonneg hp0.1]; exact hd
  have e2 : 1 + p2.tmod 60 = v := by rw [Int.tmod_eq_emod_of_nonneg hp2.1]; exact hv
  have f1 : IntKind.i64.wrap d = d := wrap_in (by omega) (by omega)
  have f2 : IntKind.i64.wrap v = v := wrap_in (by unfold VolR at hV; omega) (by unfold VolR at hV; omega)
  have HB2 : Hid (Below w1.heap.size w1 w2) := hb2
  have HS4 : Hid (w2.drew.cell? ⟨g, 0, none⟩ = some (.int .i64 p0) ∧ w2.drew.cell? ⟨g, 1, none⟩ = some (.int .i64 p1) ∧ w2.drew.cell? ⟨g, 2, none⟩ = some (.int .i64 p2) ∧ g < w2.drew.heap.size) := ⟨c0, c1, c2, hgl⟩
  have HE : Hid (1 + p1 % (3 * d) = n) := hn
  clear hb2 c0 c1 c2 hn hV hd hv HC
  go_upto_region 4 with fail
  refine wp_region_held_drew (S := fun w' : World => w'.cell? ⟨g, 0, none⟩ = some (.int .i64 p0) ∧ w'.cell? ⟨g, 1, none⟩ = some (.int .i64 p1) ∧ w'.cell? ⟨g, 2, none⟩ = some (.int .i64 p2) ∧ g < w'.heap.size) (by kernel_rfl) HS4.out (fun hHeld => ?_)
  refine wpAnyH_take (i := 0) (v := ?_) rfl (by kernel_rfl) (by kernel_rfl) (by kernel_rfl) (fun _ _ _ h => h) (Or.inl ⟨by rfl, ?_⟩) (by assumption) ?_
  rotate_left
  · intro w_ hSw; (try dsimp only at hSw); go_simp <;> with_reducible rfl
  try simp only [Act.put, List.setIfInBounds_toArray, List.set_cons_zero, List.set_cons_succ, List.getElem_toArray, List.getElem_cons_zero, List.getElem_cons_succ]
  refine wpAnyH_take (i := 1) (v := ?_) rfl (by kernel_rfl) (by kernel_rfl) (by kernel_rfl) (fun _ _ _ h => h) (Or.inl ⟨by rfl, ?_⟩) (by assumption) ?_
  rotate_left
  · intro w_ hSw; (try dsimp only at hSw); go_simp <;> with_reducible rfl
  try simp only [Act.put, List.setIfInBounds_toArray, List.set_cons_zero, List.set_cons_succ, List.getElem_toArray, List.getElem_cons_zero, List.getElem_cons_succ]
  refine wpAnyH_take (i := 2) (v := ?_) rfl (by kernel_rfl) (by kernel_rfl) (by kernel_rfl) (fun _ _ _ h => h) (Or.inl ⟨by rfl, ?_⟩) (by assumption) ?_
  rotate_left
  · intro w_ hSw; (try dsimp only at hSw); go_simp <;> with_reducible rfl
  try simp only [Act.put, List.setIfInBounds_toArray, List.set_cons_zero, List.set_cons_succ, List.getElem_toArray, List.getElem_cons_zero, List.getElem_cons_succ]
  refine wpAnyH_take (i := 3) (v := ?_) rfl (by kernel_rfl) (by kernel_rfl) (by kernel_rfl) (fun _ _ _ h => h) (Or.inl ⟨by rfl, ?_⟩) (by assumption) ?_
  rotate_left
  · intro w_ hSw; (try dsimp only at hSw); go_simp <;> with_reducible rfl
  try simp only [Act.put, List.setIfInBounds_toArray, List.set_cons_zero, List.set_cons_succ, List.getElem_toArray, List.getElem_cons_zero, List.getElem_cons_succ]
  refine wpAnyH_take (i := 4) (v := ?_) rfl (by kernel_rfl) (by kernel_rfl) (by kernel_rfl) (fun _ _ _ h => h) (Or.inl ⟨by rfl, ?_⟩) (by assumption) ?_
  rotate_left
  · intro w_ hSw; (try dsimp only at hSw); go_simp <;> with_reducible rfl
  try simp only [Act.put, List.setIfInBounds_toArray, List.set_cons_zero, List.set_cons_succ, List.getElem_toArray, List.getElem_cons_zero, List.getElem_cons_succ]
  refine wpAnyH_take (i := 5) (v := ?_) rfl (by kernel_rfl) (by kernel_rfl) (by kernel_rfl) (fun _ _ _ h => h) (Or.inl ⟨by rfl, ?_⟩) (by assumption) ?_
  rotate_left
  · intro w_ hSw; (try dsimp only at hSw); go_simp <;> with_reducible rfl
  try simp only [Act.put, List.setIfInBounds_toArray, List.set_cons_zero, List.set_cons_succ, List.getElem_toArray, List.getElem_cons_zero, List.getElem_cons_succ]
  refine wpAnyH_take (i := 6) (v := ?_) rfl (by kernel_rfl) (by kernel_rfl) (by kernel_rfl) (fun _ _ _ h => h) (Or.inl ⟨by rfl, ?_⟩) (by assumption) ?_
  rotate_left
  · intro w_ hSw; (try dsimp only at hSw); go_simp <;> with_reducible rfl
  try simp only [Act.put, List.setIfInBounds_toArray, List.set_cons_zero, List.set_cons_succ, List.getElem_toArray, List.getElem_cons_zero, List.getElem_cons_succ]
  refine wpAnyH_take (i := 7) (v := ?_) rfl (by kernel_rfl) (by kernel_rfl) (by kernel_rfl) (fun _ _ _ h => h) (Or.inl ⟨by rfl, ?_⟩) (by assumption) ?_
  rotate_left
  · intro w_ hSw; (try dsimp only at hSw); go_simp <;> with_reducible rfl
  try simp only [Act.put, List.setIfInBounds_toArray, List.set_cons_zero, List.set_cons_succ, List.getElem_toArray, List.getElem_cons_zero, List.getElem_cons_succ]
  refine wpAnyH_take (i := 8) (v := ?_) rfl (by kernel_rfl) (by kernel_rfl) (by kernel_rfl) (fun _ _ _ h => h) (Or.inl ⟨by rfl, ?_⟩) (by assumption) ?_
  rotate_left
  · intro w_ hSw; (try dsimp only at hSw); go_simp <;> with_reducible rfl
  try simp only [Act.put, List.setIfInBounds_toArray, List.set_cons_zero, List.set_cons_succ, List.getElem_toArray, List.getElem_cons_zero, List.getElem_cons_succ]
  refine wpAnyH_take (i := 9) (v := ?_) rfl (by kernel_rfl) (by kernel_rfl) (by kernel_rfl) (fun _ _ _ h => h) (Or.inl ⟨by rfl, ?_⟩) (by assumption) ?_
  rotate_left
  · intro w_ hSw; (try dsimp only at hSw); go_simp <;> with_reducible rfl
  try simp only [Act.put, List.setIfInBounds_toArray, List.set_cons_zero, List.set_cons_succ, List.getElem_toArray, List.getElem_cons_zero, List.getElem_cons_succ]
  refine wpAnyH_take (i := 10) (v := ?_) rfl (by kernel_rfl) (by kernel_rfl) (by kernel_rfl) (fun _ _ _ h => h) (Or.inl ⟨by rfl, ?_⟩) (by assumption) ?_
  rotate_left
  · intro w_ hSw; (try dsimp only at hSw); go_simp <;> with_reducible rfl
  try simp only [Act.put, List.setIfInBounds_toArray, List.set_cons_zero, List.set_cons_succ, List.getElem_toArray, List.getElem_cons_zero, List.getElem_cons_succ]
  refine wpAnyH_ready (rs := [11]) (by kernel_rfl) (by simp) ?_
  refine AllReadyH.cons rfl (fun K hK => ?_) AllReadyH.nil
  go_simp
  refine hK.out _ _ ?_ (fun hHeld2 => ?_)
  · exact ⟨celP HS4.out.1 (alP _ _), celP HS4.out.2.1 (alP _ _), celP HS4.out.2.2.1 (alP _ _), Nat.lt_of_lt_of_le HS4.out.2.2.2 (alP _ _).size⟩
  clear hK K
  try simp only [Act.put, List.setIfInBounds_toArray, List.set_cons_zero, List.set_cons_succ]
  refine wpAnyH_ready (rs := [12]) (by kernel_rfl) (by simp) ?_
  refine AllReadyH.cons rfl (fun K hK => ?_) AllReadyH.nil
  go_simp
  have HS4b : Hid ((fun w' : World => w'.cell? ⟨g, 0, none⟩ = some (.int .i64 p0) ∧ w'.cell? ⟨g, 1, none⟩ = some (.int .i64 p1) ∧ w'.cell? ⟨g, 2, none⟩ = some (.int .i64 p2) ∧ g < w'.heap.size) (w2.alloc (.cells #[.int .i64 1, .int .i64 0, .int .i64 d, .int .i64 v] 30)).drew) := ⟨celP (W := w2) (W' := w2.alloc (.cells #[.int .i64 1, .int .i64 0, .int .i64 d, .int .i64 v] 30)) HS4.out.1 (alP w2 _), celP (W := w2) (W' := w2.alloc (.cells #[.int .i64 1, .int .i64 0, .int .i64 d, .int .i64 v] 30)) HS4.out.2.1 (alP w2 _), celP (W := w2) (W' := w2.alloc (.cells #[.int .i64 1, .int .i64 0, .int .i64 d, .int .i64 v] 30)) HS4.out.2.2.1 (alP w2 _), Nat.lt_of_lt_of_le HS4.out.2.2.2 (alP w2 _).size⟩
  refine hK.out _ _ HS4b.out (fun hHeld3 => ?_)
  clear hK K
  try simp only [Act.put, List.setIfInBounds_toArray, List.set_cons_zero, List.set_cons_succ]
  refine wpAnyH_done (by kernel_rfl) ?_ _
  clear hHeld hHeld2 hHeld3
  have HO4 : Hid ((w2.alloc (.cells #[.int .i64 1, .int .i64 0, .int .i64 d, .int .i64 v] 30)).drew.heap[w2.heap.size]? = some (.cells #[.int .i64 1, .int .i64 0, .int .i64 d, .int .i64 v] 30)) := heap_new w2 _
  have HB4 : Hid (Below w1.heap.size w1 (w2.alloc (.cells #[.int .i64 1, .int .i64 0, .int .i64 d, .int .i64 v] 30)).drew) := (bel_on (Nat.le_refl _) HB2.out (alP _ _)).drew
  have hE1 : w1.heap.size ≤ w2.heap.size := HB2.out.size
  have hgE : g ≠ w2.heap.size := fun h => Nat.lt_irrefl _ (h ▸ HS4.out.2.2.2)
  obtain ⟨E, hE⟩ : ∃ E, w2.heap.size = E := ⟨_, rfl⟩
  rw [hE] at HO4 hE1 hgE
  rw [hE]
  generalize (w2.alloc (.cells #[.int .i64 1, .int .i64 0, .int .i64 d, .int .i64 v] 30)).drew = w4 at *
  have HG4 : Hid (w4.cell? ⟨g, 1, none⟩ = some (.int .i64 p1)) := HS4b.out.2.1
  clear HS4 HS4b HB2 e0 e2 f1 f2 hE
  obtain ⟨D3, hD3⟩ : ∃ D3, 3 * d = D3 := ⟨_, rfl⟩
  have g1 : IntKind.i64.wrap (3 * d) = D3 := by rw [hD3]; exact wrap_in (by omega) (by omega)
  have g2 : ¬ D3 = 0 := by omega
  have g3 : 1 + p1.tmod D3 = n := by rw [Int.tmod_eq_emod_of_nonneg hp1.1, ← hD3]; exact HE.out
  have g4 : IntKind.i64.wrap n = n := by have := HV.out; unfold VolR at this; exact wrap_in (by omega) (by omega)
  have o4 := box4_cells HO4.out
  have HS5 : Hid ((fun w' : World => w'.cell? ⟨g, 1, none⟩ = some (.int .i64 p1) ∧ w'.cell? ⟨E, 2, none⟩ = some (.int .i64 d)) w4.drew) := ⟨HG4.out, o4.1.2.2.1⟩
  clear hD3 HE
  go_upto_region 5 with fail
  clear o4
  refine wp_region_held_drew (S := fun w' : World => w'.cell? ⟨g, 1, none⟩ = some (.int .i64 p1) ∧ w'.cell? ⟨E, 2, none⟩ = some (.int .i64 d)) (by kernel_rfl) HS5.out (fun hHeld => ?_)
  refine wpAnyH_take (i := 0) (v := ?_) rfl (by kernel_rfl) (by kernel_rfl) (by kernel_rfl) (fun _ _ _ h => h) (Or.inl ⟨by rfl, ?_⟩) (by assumption) ?_
  rotate_left
  · intro w_ hSw; (try dsimp only at hSw); go_simp <;> with_reducible rfl
  try simp only [Act.put, List.setIfInBounds_toArray, List.set_cons_zero, List.set_cons_succ, List.getElem_toArray, List.getElem_cons_zero, List.getElem_cons_succ]
  refine wpAnyH_take (i := 1) (v := ?_) rfl (by kernel_rfl) (by kernel_rfl) (by kernel_rfl) (fun _ _ _ h => h) (Or.inl ⟨by rfl, ?_⟩) (by assumption) ?_
  rotate_left
  · intro w_ hSw; (try dsimp only at hSw); go_simp <;> with_reducible rfl
  try simp only [Act.put, List.setIfInBounds_toArray, List.set_cons_zero, List.set_cons_succ, List.getElem_toArray, List.getElem_cons_zero, List.getElem_cons_succ]
  refine wpAnyH_take (i := 2) (v := ?_) rfl (by kernel_rfl) (by kernel_rfl) (by kernel_rfl) (fun _ _ _ h => h) (Or.inl ⟨by rfl, ?_⟩) (by assumption) ?_
  rotate_left
  · intro w_ hSw; (try dsimp only at hSw); go_simp <;> with_reducible rfl
  try simp only [Act.put, List.setIfInBounds_toArray, List.set_cons_zero, List.set_cons_succ, List.getElem_toArray, List.getElem_cons_zero, List.getElem_cons_succ]
  refine wpAnyH_take (i := 3) (v := ?_) rfl (by kernel_rfl) (by kernel_rfl) (by kernel_rfl) (fun _ _ _ h => h) (Or.inl ⟨by rfl, ?_⟩) (by assumption) ?_
  rotate_left
  · intro w_ hSw; (try dsimp only at hSw); go_simp <;> with_reducible rfl
  try simp only [Act.put, List.setIfInBounds_toArray, List.set_cons_zero, List.set_cons_succ, List.getElem_toArray, List.getElem_cons_zero, List.getElem_cons_succ]
  refine wpAnyH_take (i := 4) (v := ?_) rfl (by kernel_rfl) (by kernel_rfl) (by kernel_rfl) (fun _ _ _ h => h) (Or.inl ⟨by rfl, ?_⟩) (by assumption) ?_
  rotate_left
  · intro w_ hSw; (try dsimp only at hSw); go_simp <;> with_reducible rfl
  try simp only [Act.put, List.setIfInBounds_toArray, List.set_cons_zero, List.set_cons_succ, List.getElem_toArray, List.getElem_cons_zero, List.getElem_cons_succ]
  refine wpAnyH_take (i := 5) (v := ?_) rfl (by kernel_rfl) (by kernel_rfl) (by kernel_rfl) (fun _ _ _ h => h) (Or.inl ⟨by rfl, ?_⟩) (by assumption) ?_
  rotate_left
  · intro w_ hSw; (try dsimp only at hSw); go_simp <;> with_reducible rfl
  try simp only [Act.put, List.setIfInBounds_toArray, List.set_cons_zero, List.set_cons_succ, List.getElem_toArray, List.getElem_cons_zero, List.getElem_cons_succ]
  refine wpAnyH_take (i := 6) (v := ?_) rfl (by kernel_rfl) (by kernel_rfl) (by kernel_rfl) (fun _ _ _ h => h) (Or.inl ⟨by rfl, ?_⟩) (by assumption) ?_
  rotate_left
  · intro w_ hSw; (try dsimp only at hSw); go_simp <;> with_reducible rfl
  try simp only [Act.put, List.setIfInBounds_toArray, List.set_cons_zero, List.set_cons_succ, List.getElem_toArray, List.getElem_cons_zero, List.getElem_cons_succ]
  refine wpAnyH_take (i := 7) (v := ?_) rfl (by kernel_rfl) (by kernel_rfl) (by kernel_rfl) (fun _ _ _ h => h) (Or.inl ⟨by rfl, ?_⟩) (by assumption) ?_
  rotate_left
  · intro w_ hSw; (try dsimp only at hSw); go_simp <;> with_reducible rfl
  try simp only [Act.put, List.setIfInBounds_toArray, List.set_cons_zero, List.set_cons_succ, List.getElem_toArray, List.getElem_cons_zero, List.getElem_cons_succ]
  refine wpAnyH_take (i := 8) (v := ?_) rfl (by kernel_rfl) (by kernel_rfl) (by kernel_rfl) (fun _ _ _ h => h) (Or.inl ⟨by rfl, ?_⟩) (by assumption) ?_
  rotate_left
  · intro w_ hSw; (try dsimp only at hSw); go_simp <;> with_reducible rfl
  try simp only [Act.put, List.setIfInBounds_toArray, List.set_cons_zero, List.set_cons_succ, List.getElem_toArray, List.getElem_cons_zero, List.getElem_cons_succ]
  refine wpAnyH_ready (rs := [9]) (by kernel_rfl) (by simp) ?_
  refine AllReadyH.cons rfl (fun K hK => ?_) AllReadyH.nil
  have o4 := box4_cells HO4.out
  go_simp
  have HO5 : Hid ((w4.setCell ⟨E, 1, none⟩ (.int .i64 n)).drew.heap[E]? = some (.cells #[.int .i64 1, .int .i64 n, .int .i64 d, .int .i64 v] 30)) := set_rowP HO4.out 1 _
  have o5 := box4_cells HO5.out
  have HS5b : Hid ((fun w' : World => w'.cell? ⟨g, 1, none⟩ = some (.int .i64 p1) ∧ w'.cell? ⟨E, 2, none⟩ = some (.int .i64 d)) (w4.setCell ⟨E, 1, none⟩ (.int .i64 n)).drew) := ⟨cel_ho HG4.out (Below.heap_setCell _ _ _ _ hgE), o5.1.2.2.1⟩
  refine hK.out _ _ HS5b.out (fun hHeld2 => ?_)
  clear hK K o4
  try simp only [Act.put, List.setIfInBounds_toArray, List.set_cons_zero, List.set_cons_succ]
  refine wpAnyH_done (by kernel_rfl) ?_ _
  clear hHeld hHeld2 o5
  have HB5 : Hid (Below w1.heap.size w1 (w4.setCell ⟨E, 1, none⟩ (.int .i64 n)).drew) := (HB4.out.setCell hE1 _).drew
  generalize (w4.setCell ⟨E, 1, none⟩ (.int .i64 n)).drew = w5 at *
  clear HS5 HS5b HG4 HO4 HB4 g1 g2 g3 g4
  have hE5 : E < w5.heap.size := row_lt HO5.out
  have R6S : (fun w' : World => w'.heap[E]? = some (.cells #[.int .i64 1, .int .i64 n, .int .i64 d, .int .i64 v] 30)) w5.drew := HO5.out
  have R6P : ∀ t0 t1 t3, P6 w5.heap.size w1.heap.size w1 (.agg #[.int .i64 0, .int .i64 0, .int .i64 1, .int .i64 0, .int .i64 0, .int .i64 0, .int .i64 0, .int .i64 0]) (.tuple #[.agg #[.int .i64 1, .int .i64 n, .int .i64 d, .int .i64 0, .int .i64 v, .int .i64 0, .int .i64 0, .int .i64 0], .bool true]) false 0 t0 t1 t3 w5.drew := fun _ _ _ => ⟨fun h => absurd h (by decide), fun h => absurd h (by decide), fun h => absurd h (by decide), HB5.out.drew, HB5.out.size, Nat.le_refl _⟩
  go_upto_region 6 with fail
  go_cut [5, 6] (fun o1 o2 wc => ∃ bb : Nat, o1 = .pointer (some ⟨bb, 0, none⟩) ∧ o2 = .bool true ∧ Hid ((fun w' : World => w'.heap[E]? = some (.cells #[.int .i64 1, .int .i64 n, .int .i64 d, .int .i64 v] 30)) wc) ∧ Hid (wc.heap[bb]? = some (.cells #[.int .i64 1, .int .i64 n, .int .i64 d, .int .i64 0, .int .i64 v, .int .i64 0, .int .i64 0, .int .i64 0] 27)) ∧ Hid (Below w1.heap.size w1 wc) ∧ E < bb)
  case first =>
    refine wp_region_held_drew (S := fun w' : World => w'.heap[E]? = some (.cells #[.int .i64 1, .int .i64 n, .int .i64 d, .int .i64 v] 30)) (by kernel_rfl) R6S (fun hHeld => ?_)
    refine wpAnyH_take (i := 1) (v := ?_) rfl (by kernel_rfl) (by kernel_rfl) (by kernel_rfl) (fun _ _ _ h => h) (Or.inl ⟨by rfl, ?_⟩) (by assumption) ?_
    rotate_left
    · intro w_ hSw; (try dsimp only at hSw); have qb_ := box4_cells hSw; go_simp <;> with_reducible rfl
    try simp only [Act.put, List.setIfInBounds_toArray, List.set_cons_zero, List.set_cons_succ, List.getElem_toArray, List.getElem_cons_zero, List.getElem_cons_succ]
    refine wpAnyH_named (fun a0 ha0 => ?_)
    have HA0 : Hid (a0 = _) := ha0
    clear ha0
    refine any_states (σ := Bool × Fin 3) (fun s => #[decide (0 < s.2), true, decide (1 < s.2), false, false, false, s.1, false, false]) (fun s => (if s.2 = 0 then [0] else []) ++ (if s.2 = 1 then [2] else []) ++ (if s.1 = true then [] else [6])) (fun s => 5 + (if s.1 then 0 else 1) + (2 - s.2.val)) (fun s => true) (fun s => decide (s.2 = 2)) (fun q a w_ => ∃ t0 t1 t3 : Value, a = ((a0.put (some 34) t0).put (some 36) t1).put (some 5) t3 ∧ P6 (w5.heap.size) w1.heap.size w1 (.agg #[.int .i64 0, .int .i64 0, .int .i64 1, .int .i64 0, .int .i64 0, .int .i64 0, .int .i64 0, .int .i64 0]) (.tuple #[.agg #[.int .i64 1, .int .i64 n, .int .i64 d, .int .i64 0, .int .i64 v, .int .i64 0, .int .i64 0, .int .i64 0], .bool true]) q.1 q.2 t0 t1 t3 w_) ?_ ?_ ?_ 8 (false, 0) _ _ _ (by decide) (by decide) (by decide) (by assumption) ⟨a0.tmps.getD 34 undef, a0.tmps.getD 36 undef, a0.tmps.getD 5 undef, (by simp only [put_self]), R6P _ _ _⟩
    · rintro ⟨x, c⟩
      dsimp only
      revert x c
      decide +kernel
    · rintro ⟨x, c⟩ i hok hfin hi
      dsimp only at hok hfin hi
      simp only [List.mem_append, mem_ifn, mem_ifc] at hi
      rcases hi with (hi | hi) | hi
      · obtain ⟨rfl, rfl⟩ := hi
        refine ⟨(x, 1), rfl, rfl, ?_, ?_⟩
        · clear hfin hok; revert x; decide +kernel
        rintro a w_ hSw ⟨t0, t1, t3, rfl, hn⟩
        dsimp only at hn hSw ⊢
        refine wpOp_step (i := 0) rfl (fun K hK => ?_)
        have HK : Shut _ := hK
        clear hK
        rw [HA0.out]
        simp only [Act.put, List.setIfInBounds_toArray, List.set_cons_zero, List.set_cons_succ]
        skip
        go_simp
        go_at_call 24
        refine Calls.mono (KN.out _) ?_
        rintro e w2_ ⟨rfl, hb2⟩
        have hn2 := hn.on hb2
        have hS2 := row_on hSw hb2
        go_wp2_with fail
        exact HK.out _ _ ⟨hS2, _, t1, t3, (by rw [HA0.out]; simp only [Act.put, List.setIfInBounds_toArray, List.set_cons_zero, List.set_cons_succ]), ⟨fun _ => rfl, fun h => absurd h (by decide), hn2.x, hn2.bel, hn2.le, hn2.sz⟩⟩
      · obtain ⟨rfl, rfl⟩ := hi
        refine ⟨(x, 2), rfl, rfl, ?_, ?_⟩
        · clear hfin hok; revert x; decide +kernel
        rintro a w_ hSw ⟨t0, t1, t3, rfl, hn⟩
        dsimp only at hn hSw ⊢
        refine wpOp_step (i := 2) rfl (fun K hK => ?_)
        have HK : Shut _ := hK
        clear hK
        rw [HA0.out]
        simp only [Act.put, List.setIfInBounds_toArray, List.set_cons_zero, List.set_cons_succ]
        obtain rfl := hn.c1 (by decide)
        go_simp
        go_at_call 16
        refine Calls.mono (KK.out _) ?_
        rintro e w2_ ⟨rfl, hb2⟩
        have hn2 := hn.on hb2
        have hS2 := row_on hSw hb2
        go_wp2_with fail
        exact HK.out _ _ ⟨hS2, _, _, t3, (by rw [HA0.out]; simp only [Act.put, List.setIfInBounds_toArray, List.set_cons_zero, List.set_cons_succ]), ⟨fun _ => rfl, fun _ => rfl, hn2.x, hn2.bel, hn2.le, hn2.sz⟩⟩
      · obtain ⟨hx, rfl⟩ := hi
        subst hx
        refine ⟨(true, c), rfl, rfl, ?_, ?_⟩
        · clear hfin hok; revert c; decide +kernel
        rintro a w_ hSw ⟨t0, t1, t3, rfl, hn⟩
        dsimp only at hn hSw ⊢
        refine wpOp_step (i := 6) rfl (fun K hK => ?_)
        have HK : Shut _ := hK
        clear hK
        rw [HA0.out]
        simp only [Act.put, List.setIfInBounds_toArray, List.set_cons_zero, List.set_cons_succ]
        go_simp
        have hn2 := hn.new
        have hS2 := row_on hSw (alP w_ (.cells #[.int .i64 0, .int .i64 0, .int .i64 0, .int .i64 0, .int .i64 0, .int .i64 0, .int .i64 0, .int .i64 0] 27))
        exact HK.out _ _ ⟨hS2, t0, t1, _, (by rw [HA0.out]; simp only [Act.put, List.setIfInBounds_toArray, List.set_cons_zero, List.set_cons_succ]), hn2⟩
    · rintro ⟨x, c⟩ a w_ f2 hok hfin hf hSw ⟨t0, t1, t3, rfl, hn⟩
      dsimp only at hok hfin hf hn hSw ⊢
      obtain rfl : c = 2 := by simpa using hfin
      obtain rfl := hn.c1 (by decide)
      obtain rfl := hn.c2 (by decide)
      rw [HA0.out]
      simp only [Act.put, List.setIfInBounds_toArray, List.set_cons_zero, List.set_cons_succ]
      cases x
      · obtain ⟨f3, rfl⟩ : ∃ f3, f2 = f3 + 6 := ⟨f2 - 6, by have h3 : 6 ≤ f2 := (by first | exact hf | simpa using hf); omega⟩
        refine wpAnyH_take (i := 3) (v := ?_) rfl (by kernel_rfl) (by kernel_rfl) (by kernel_rfl) (fun _ _ _ h => h) (Or.inl ⟨by rfl, ?_⟩) (by assumption) ?_
        rotate_left
        · intro w2_ hSw2; (try dsimp only at hSw2); go_simp <;> with_reducible rfl
        try simp only [Act.put, List.setIfInBounds_toArray, List.set_cons_zero, List.set_cons_succ, List.getElem_toArray, List.getElem_cons_zero, List.getElem_cons_succ]
        refine wpAnyH_take (i := 4) (v := ?_) rfl (by kernel_rfl) (by kernel_rfl) (by kernel_rfl) (fun _ _ _ h => h) (Or.inl ⟨by rfl, ?_⟩) (by assumption) ?_
        rotate_left
        · intro w2_ hSw2; (try dsimp only at hSw2); go_simp <;> with_reducible rfl
        try simp only [Act.put, List.setIfInBounds_toArray, List.set_cons_zero, List.set_cons_succ, List.getElem_toArray, List.getElem_cons_zero, List.getElem_cons_succ]
        refine wpAnyH_take (i := 5) (v := ?_) rfl (by kernel_rfl) (by kernel_rfl) (by kernel_rfl) (fun _ _ _ h => h) (Or.inl ⟨by rfl, ?_⟩) (by assumption) ?_
        rotate_left
        · intro w2_ hSw2; (try dsimp only at hSw2); go_simp <;> with_reducible rfl
        try simp only [Act.put, List.setIfInBounds_toArray, List.set_cons_zero, List.set_cons_succ, List.getElem_toArray, List.getElem_cons_zero, List.getElem_cons_succ]
        refine wpAnyH_ready (rs := [6]) (by kernel_rfl) (by simp) ?_
        refine AllReadyH.cons rfl (fun K hK => ?_) AllReadyH.nil
        have hn3 := hn.new
        have hS3 := row_on hSw (alP w_ (.cells #[.int .i64 0, .int .i64 0, .int .i64 0, .int .i64 0, .int .i64 0, .int .i64 0, .int .i64 0, .int .i64 0] 27))
        go_simp
        refine hK.out _ _ hS3 (fun hHeld2 => ?_)
        clear hK K
        simp only [Act.put, List.setIfInBounds_toArray, List.set_cons_zero, List.set_cons_succ]
        obtain ⟨bq, e1, hrow, hge⟩ := hn3.x rfl
        obtain rfl : w_.heap.size = bq := by simpa using e1
        obtain ⟨W_, hW_⟩ : ∃ W_, w_.alloc (.cells #[.int .i64 0, .int .i64 0, .int .i64 0, .int .i64 0, .int .i64 0, .int .i64 0, .int .i64 0, .int .i64 0] 27) = W_ := ⟨_, rfl⟩
        obtain ⟨bq, hbq⟩ : ∃ bq, w_.heap.size = bq := ⟨_, rfl⟩
        rw [hbq] at hrow hge e1 hn3
        rw [hW_] at hrow hn3 hS3
        rw [hbq, hW_]
        clear hn hSw hHeld2 hW_ hbq e1
        have hbl : w1.heap.size ≤ bq := Nat.le_trans hn3.le hge
        have kk := box8_cells hrow
        refine wpAnyH_ready (rs := [7]) (by kernel_rfl) (by simp) ?_
        refine AllReadyH.cons rfl (fun K hK => ?_) AllReadyH.nil
        go_simp
        have HPn : Hid (((((((((W_.setCell ⟨bq, 0, none⟩ (.int .i64 1)).setCell ⟨bq, 1, none⟩ (.int .i64 n)).setCell ⟨bq, 2, none⟩ (.int .i64 d)).setCell ⟨bq, 3, none⟩ (.int .i64 0)).setCell ⟨bq, 4, none⟩ (.int .i64 v)).setCell ⟨bq, 5, none⟩ (.int .i64 0)).setCell ⟨bq, 6, none⟩ (.int .i64 0)).setCell ⟨bq, 7, none⟩ (.int .i64 0)).heap[bq]? = some (.cells #[.int .i64 1, .int .i64 n, .int .i64 d, .int .i64 0, .int .i64 v, .int .i64 0, .int .i64 0, .int .i64 0] 27)) := set8_row (1) (n) (d) (0) (v) (0) (0) (0) hrow
        have HBn : Hid (Below w1.heap.size w1 ((((((((W_.setCell ⟨bq, 0, none⟩ (.int .i64 1)).setCell ⟨bq, 1, none⟩ (.int .i64 n)).setCell ⟨bq, 2, none⟩ (.int .i64 d)).setCell ⟨bq, 3, none⟩ (.int .i64 0)).setCell ⟨bq, 4, none⟩ (.int .i64 v)).setCell ⟨bq, 5, none⟩ (.int .i64 0)).setCell ⟨bq, 6, none⟩ (.int .i64 0)).setCell ⟨bq, 7, none⟩ (.int .i64 0))) := set8_bel (1) (n) (d) (0) (v) (0) (0) (0) hn3.bel hbl
        have HSn : Hid ((fun w' : World => w'.heap[E]? = some (.cells #[.int .i64 1, .int .i64 n, .int .i64 d, .int .i64 v] 30)) ((((((((W_.setCell ⟨bq, 0, none⟩ (.int .i64 1)).setCell ⟨bq, 1, none⟩ (.int .i64 n)).setCell ⟨bq, 2, none⟩ (.int .i64 d)).setCell ⟨bq, 3, none⟩ (.int .i64 0)).setCell ⟨bq, 4, none⟩ (.int .i64 v)).setCell ⟨bq, 5, none⟩ (.int .i64 0)).setCell ⟨bq, 6, none⟩ (.int .i64 0)).setCell ⟨bq, 7, none⟩ (.int .i64 0))) := set8_far (1) (n) (d) (0) (v) (0) (0) (0) hS3 (by omega)
        refine hK.out _ _ HSn.out (fun hHeld3 => ?_)
        clear hK K
        simp only [Act.put, List.setIfInBounds_toArray, List.set_cons_zero, List.set_cons_succ]
        refine wpAnyH_take (i := 8) (v := ?_) rfl (by kernel_rfl) (by kernel_rfl) (by kernel_rfl) (fun _ _ _ h => h) (Or.inl ⟨by rfl, ?_⟩) (by assumption) ?_
        rotate_left
        · intro w2_ hSw2; (try dsimp only at hSw2); go_simp <;> with_reducible rfl
        try simp only [Act.put, List.setIfInBounds_toArray, List.set_cons_zero, List.set_cons_succ, List.getElem_toArray, List.getElem_cons_zero, List.getElem_cons_succ]
        clear hHeld3
        refine wpAnyH_done (by kernel_rfl) ?_ _
        generalize ((((((((W_.setCell ⟨bq, 0, none⟩ (.int .i64 1)).setCell ⟨bq, 1, none⟩ (.int .i64 n)).setCell ⟨bq, 2, none⟩ (.int .i64 d)).setCell ⟨bq, 3, none⟩ (.int .i64 0)).setCell ⟨bq, 4, none⟩ (.int .i64 v)).setCell ⟨bq, 5, none⟩ (.int .i64 0)).setCell ⟨bq, 6, none⟩ (.int .i64 0)).setCell ⟨bq, 7, none⟩ (.int .i64 0)) = w9 at *
        (try go_wp2_with fail)
        go_meet
        exact ⟨bq, rfl, rfl, HSn, HPn, HBn, by omega⟩
      · obtain ⟨f3, rfl⟩ : ∃ f3, f2 = f3 + 5 := ⟨f2 - 5, by have h3 : 5 ≤ f2 := (by first | exact hf | simpa using hf); omega⟩
        obtain ⟨bq, rfl, hrow, hge⟩ := hn.x rfl
        refine wpAnyH_take (i := 3) (v := ?_) rfl (by kernel_rfl) (by kernel_rfl) (by kernel_rfl) (fun _ _ _ h => h) (Or.inl ⟨by rfl, ?_⟩) (by assumption) ?_
        rotate_left
        · intro w2_ hSw2; (try dsimp only at hSw2); go_simp <;> with_reducible rfl
        try simp only [Act.put, List.setIfInBounds_toArray, List.set_cons_zero, List.set_cons_succ, List.getElem_toArray, List.getElem_cons_zero, List.getElem_cons_succ]
        refine wpAnyH_take (i := 4) (v := ?_) rfl (by kernel_rfl) (by kernel_rfl) (by kernel_rfl) (fun _ _ _ h => h) (Or.inl ⟨by rfl, ?_⟩) (by assumption) ?_
        rotate_left
        · intro w2_ hSw2; (try dsimp only at hSw2); go_simp <;> with_reducible rfl
        try simp only [Act.put, List.setIfInBounds_toArray, List.set_cons_zero, List.set_cons_succ, List.getElem_toArray, List.getElem_cons_zero, List.getElem_cons_succ]
        refine wpAnyH_take (i := 5) (v := ?_) rfl (by kernel_rfl) (by kernel_rfl) (by kernel_rfl) (fun _ _ _ h => h) (Or.inl ⟨by rfl, ?_⟩) (by assumption) ?_
        rotate_left
        · intro w2_ hSw2; (try dsimp only at hSw2); go_simp <;> with_reducible rfl
        try simp only [Act.put, List.setIfInBounds_toArray, List.set_cons_zero, List.set_cons_succ, List.getElem_toArray, List.getElem_cons_zero, List.getElem_cons_succ]
        have hbl : w1.heap.size ≤ bq := Nat.le_trans hn.le hge
        have kk := box8_cells hrow
        refine wpAnyH_ready (rs := [7]) (by kernel_rfl) (by simp) ?_
        refine AllReadyH.cons rfl (fun K hK => ?_) AllReadyH.nil
        go_simp
        have HPn : Hid (((((((((w_.setCell ⟨bq, 0, none⟩ (.int .i64 1)).setCell ⟨bq, 1, none⟩ (.int .i64 n)).setCell ⟨bq, 2, none⟩ (.int .i64 d)).setCell ⟨bq, 3, none⟩ (.int .i64 0)).setCell ⟨bq, 4, none⟩ (.int .i64 v)).setCell ⟨bq, 5, none⟩ (.int .i64 0)).setCell ⟨bq, 6, none⟩ (.int .i64 0)).setCell ⟨bq, 7, none⟩ (.int .i64 0)).heap[bq]? = some (.cells #[.int .i64 1, .int .i64 n, .int .i64 d, .int .i64 0, .int .i64 v, .int .i64 0, .int .i64 0, .int .i64 0] 27)) := set8_row (1) (n) (d) (0) (v) (0) (0) (0) hrow
        have HBn : Hid (Below w1.heap.size w1 ((((((((w_.setCell ⟨bq, 0, none⟩ (.int .i64 1)).setCell ⟨bq, 1, none⟩ (.int .i64 n)).setCell ⟨bq, 2, none⟩ (.int .i64 d)).setCell ⟨bq, 3, none⟩ (.int .i64 0)).setCell ⟨bq, 4, none⟩ (.int .i64 v)).setCell ⟨bq, 5, none⟩ (.int .i64 0)).setCell ⟨bq, 6, none⟩ (.int .i64 0)).setCell ⟨bq, 7, none⟩ (.int .i64 0))) := set8_bel (1) (n) (d) (0) (v) (0) (0) (0) hn.bel hbl
        have HSn : Hid ((fun w' : World => w'.heap[E]? = some (.cells #[.int .i64 1, .int .i64 n, .int .i64 d, .int .i64 v] 30)) ((((((((w_.setCell ⟨bq, 0, none⟩ (.int .i64 1)).setCell ⟨bq, 1, none⟩ (.int .i64 n)).setCell ⟨bq, 2, none⟩ (.int .i64 d)).setCell ⟨bq, 3, none⟩ (.int .i64 0)).setCell ⟨bq, 4, none⟩ (.int .i64 v)).setCell ⟨bq, 5, none⟩ (.int .i64 0)).setCell ⟨bq, 6, none⟩ (.int .i64 0)).setCell ⟨bq, 7, none⟩ (.int .i64 0))) := set8_far (1) (n) (d) (0) (v) (0) (0) (0) hSw (by omega)
        refine hK.out _ _ HSn.out (fun hHeld3 => ?_)
        clear hK K
        simp only [Act.put, List.setIfInBounds_toArray, List.set_cons_zero, List.set_cons_succ]
        refine wpAnyH_take (i := 8) (v := ?_) rfl (by kernel_rfl) (by kernel_rfl) (by kernel_rfl) (fun _ _ _ h => h) (Or.inl ⟨by rfl, ?_⟩) (by assumption) ?_
        rotate_left
        · intro w2_ hSw2; (try dsimp only at hSw2); go_simp <;> with_reducible rfl
        try simp only [Act.put, List.setIfInBounds_toArray, List.set_cons_zero, List.set_cons_succ, List.getElem_toArray, List.getElem_cons_zero, List.getElem_cons_succ]
        clear hHeld3
        refine wpAnyH_done (by kernel_rfl) ?_ _
        generalize ((((((((w_.setCell ⟨bq, 0, none⟩ (.int .i64 1)).setCell ⟨bq, 1, none⟩ (.int .i64 n)).setCell ⟨bq, 2, none⟩ (.int .i64 d)).setCell ⟨bq, 3, none⟩ (.int .i64 0)).setCell ⟨bq, 4, none⟩ (.int .i64 v)).setCell ⟨bq, 5, none⟩ (.int .i64 0)).setCell ⟨bq, 6, none⟩ (.int .i64 0)).setCell ⟨bq, 7, none⟩ (.int .i64 0)) = w9 at *
        (try go_wp2_with fail)
        go_meet
        exact ⟨bq, rfl, rfl, HSn, HPn, HBn, by omega⟩
  case rest =>
    obtain ⟨B, rfl, rfl, HS6, HP6, HB6, hEB⟩ := hcut
    rename World => wA
    clear R6S R6P HO5 HB5 KN KK hE5
    have hAB := row_lt HP6.out
    have HLe : Hid (B ≤ B) := Nat.le_refl _
    obtain ⟨m, hm1, hm2, hm3, hm4⟩ := vol_ticks HV.out
    have HM1 : Hid (v * d ≤ (m : Int) * n) := hm1
    have HM2 : Hid (((m : Int) - 1) * n < v * d) := hm2
    have hvr := HV.out
    unfold VolR at hvr
    obtain ⟨⟨hd1, hd9⟩, ⟨hn1, hn3⟩, hv1, hv60⟩ := hvr
    clear hm1 hm2 hp0 hp1 hp2 hgl hg
    go_wp2
    go_loopg [7] m (fun gk i wr => ∃ (j : Nat) (s a1 b1 R L G : Int), j + gk = m ∧ i = .int .i64 j ∧ Hid (volP n d v (((j : Int) * n) / d) (((j : Int) * n) % d) = ⟨s, a1, b1, R, L, 0, G, 0⟩) ∧ Hid (wr.heap[B]? = some (.cells #[.int .i64 s, .int .i64 a1, .int .i64 b1, .int .i64 R, .int .i64 L, .int .i64 0, .int .i64 G, .int .i64 0] 27)) ∧ Hid (Below B wA wr))
    case atStart => exact ⟨0, 1, n, d, 0, v, 0, by omega, rfl, (by show _ = _; unfold volP; simp; omega), HP6, Below.refl _ _⟩
    case round =>
      clear HP6
      obtain ⟨j, s, a1, b1, R, L, G, hj, rfl, HF, HPr, HBe⟩ := hrel
      have HOr : Hid (wr.heap[E]? = some (.cells #[.int .i64 1, .int .i64 n, .int .i64 d, .int .i64 v] 30)) := (HBe.out.block E hEB).trans HS6.out
      by_cases hlt : j < m
      · have hlt' : (j : Int) < 1000 := by omega
        have hqv := vol_ahead HV.out HM2.out hlt
        obtain ⟨G', hG'⟩ : ∃ G', ((j : Int) * n) / d = G' := ⟨_, rfl⟩
        obtain ⟨R', hR'⟩ : ∃ R', ((j : Int) * n) % d = R' := ⟨_, rfl⟩
        have hnx := vol_next (n := n) hd1 (j : Int)
        rw [hG'] at hqv
        rw [hG', hR'] at hnx
        have hF := HF.out
        rw [hG', hR'] at hF
        unfold volP at hF
        rw [if_pos hqv] at hF
        injection hF with e1 e2 e3 e4 e5 e6 e7 e8
        subst e1 e2 e3 e4 e7
        have hR0 : 0 ≤ R' ∧ R' < d := by rw [← hR']; exact ⟨Int.emod_nonneg _ (by omega), Int.emod_lt_of_pos _ (by omega)⟩
        have hjn : 0 ≤ (j : Int) * n := Int.mul_nonneg (by omega) (by omega)
        have hG0 : 0 ≤ G' := by rw [← hG']; exact Int.ediv_nonneg hjn (by omega)
        obtain ⟨z, hz⟩ : ∃ z, (R' + n) / d = z := ⟨_, rfl⟩
        obtain ⟨R2, hR2⟩ : ∃ R2, (R' + n) % d = R2 := ⟨_, rfl⟩
        have hz0 : 0 ≤ z := by rw [← hz]; exact Int.ediv_nonneg (by omega) (by omega)
        rw [hz, hR2] at hnx
        obtain ⟨q2, hq2⟩ : ∃ q2, G' + z = q2 := ⟨_, rfl⟩
        rw [hq2] at hnx
        obtain ⟨W, hW⟩ : ∃ W, min z L = W := ⟨_, rfl⟩
        have KW : Hid (∀ w, Calls Try.prog 22 #[.agg #[.int .i64 1, .int .i64 n, .int .i64 d, .int .i64 R', .int .i64 L, .int .i64 0, .int .i64 G', .int .i64 0]] w fun e w' => e = .returned (.int .i64 W) ∧ Below w.heap.size w w') := fun w => by
          have h := wantsI ⟨1, n, d, R', v - G', 0, G', 0⟩ w
          rw [vol_wants HV.out hG0 hqv hR0 hz, e5, hW] at h
          exact h
        have KG0 : Hid (∀ w, Calls Try.prog 19 #[.agg #[.int .i64 1, .int .i64 n, .int .i64 d, .int .i64 R', .int .i64 L, .int .i64 0, .int .i64 G', .int .i64 0], .int .i64 W] w fun e w' => e = .returned (volP n d v q2 R2).V ∧ Below w.heap.size w w') := fun w => by
          have h := giveI ⟨1, n, d, R', v - G', 0, G', 0⟩ (min z (v - G')) w
          rw [vol_step HV.out hG0 hqv hR0 hz hR2 hz0, e5, hW, hq2] at h
          exact h
        obtain ⟨T2, hT2⟩ : ∃ T2, ((j : Int) + 1) * n = T2 := ⟨_, rfl⟩
        have hT0 : 0 ≤ T2 ∧ T2 ≤ 100000 := by
          rw [← hT2]
          refine ⟨Int.mul_nonneg (by omega) (by omega), ?_⟩
          have := Int.mul_le_mul (a := (j : Int) + 1) (b := n) (c := 1000) (d := 27) (by omega) (by omega) (by omega) (by omega)
          omega
        have u0 : IntKind.i64.wrap ((j : Int) + 1) = (j : Int) + 1 := wrap_in (by omega) (by omega)
        have u1 : IntKind.i64.wrap (((j : Int) + 1) * n) = T2 := by rw [hT2]; exact wrap_in (by omega) (by omega)
        have u2 : wrap64 (((j : Int) + 1) * n) = T2 := by rw [hT2]; exact wrap64_in (by omega) (by omega)
        have hq3 : T2 / d = q2 := by rw [← hT2]; exact hnx.1
        have hq4 : 0 ≤ q2 ∧ q2 ≤ T2 := by rw [← hq3]; exact ⟨Int.ediv_nonneg hT0.1 (by omega), Int.ediv_le_self _ hT0.1⟩
        have u3 : T2.tdiv d = q2 := by rw [Int.tdiv_eq_ediv_of_nonneg hT0.1]; exact hq3
        have u4 : IntKind.i64.wrap q2 = q2 := wrap_in (by omega) (by omega)
        have u5 : wrap64 q2 = q2 := wrap64_in (by omega) (by omega)
        have u6 : ¬ d = 0 := by omega
        have HN : Hid (volP n d v (((j + 1 : Nat) : Int) * n / d) (((j + 1 : Nat) : Int) * n % d) = volP n d v q2 R2) := by
          show _ = _
          have c1 : ((j + 1 : Nat) : Int) = (j : Int) + 1 := by omega
          rw [c1, hnx.1, hnx.2]
        have hlt2 : j + 1 + (gk - 1) = m := by omega
        clear hz hR2 hW hT2 hq3 hnx e5 e6 e8 HF hG' hR' hG0 hR0 hjn hq2 hz0 hlt
        have pr := box8_cells HPr.out
        have orr := box4_cells HOr.out
        by_cases hc : v < q2
        · have KG : Hid (∀ w, Calls Try.prog 19 #[.agg #[.int .i64 1, .int .i64 n, .int .i64 d, .int .i64 R', .int .i64 L, .int .i64 0, .int .i64 G', .int .i64 0], .int .i64 W] w fun e w' => e = .returned (.agg #[.int .i64 2, .int .i64 1, .int .i64 50, .int .i64 0, .int .i64 0, .int .i64 0, .int .i64 v, .int .i64 0]) ∧ Below w.heap.size w w') := fun w => by
            have h := KG0.out w
            unfold volP at h
            rw [if_neg (by omega)] at h
            exact h
          have HN2 : Hid (volP n d v (((j + 1 : Nat) : Int) * n / d) (((j + 1 : Nat) : Int) * n % d) = ⟨2, 1, 50, 0, 0, 0, v, 0⟩) := HN.out.trans (by unfold volP; rw [if_neg (by omega)])
          clear KG0 HN
          go_upto_region 12 with fail
          clear u1 u2 u3 u4 u5 u6
          refine wp_region_held_drew (S := fun w' => True) (by kernel_rfl) trivial (fun hHeld => ?_)
          refine wpAnyH_named (fun a0 ha0 => ?_)
          have HA0 : Hid (a0 = _) := ha0
          clear ha0
          refine any_states (σ := Bool × Fin 3) (fun s => #[s.1, decide (0 < s.2), decide (1 < s.2), false, false]) (fun s => (if s.1 = true then [] else [0]) ++ (if s.2 = 0 then [1] else []) ++ (if s.2 = 1 then [2] else [])) (fun s => 2 + (if s.1 then 0 else 1) + (2 - s.2.val)) (fun s => true) (fun s => decide (s.2 = 2) && s.1) (fun q a w_ => ∃ t0 t1 t2 : Value, a = ((a0.put (some 60) t0).put (some 61) t1).put (some 62) t2 ∧ PG (B) (B) wA (1) (n) (d) (R') (L) (0) (G') (0) (W) q.1 q.2 t0 t1 t2 w_) ?_ ?_ ?_ 5 (false, 0) _ _ _ (by decide) (by decide) (by decide) trivial ⟨a0.tmps.getD 60 undef, a0.tmps.getD 61 undef, a0.tmps.getD 62 undef, (by simp only [put_self]), ⟨fun h => absurd h (by simp), fun h => absurd h (by simp), fun h => absurd h (by simp), HPr.out, HBe.out.drew, HLe.out⟩⟩
          · rintro ⟨x, c⟩
            dsimp only
            revert x c
            decide +kernel
          · rintro ⟨x, c⟩ i hok hfin hi
            dsimp only at hok hfin hi
            simp only [List.mem_append, mem_ifn, mem_ifc] at hi
            rcases hi with (hi | hi) | hi
            · obtain ⟨hx, rfl⟩ := hi
              subst hx
              refine ⟨(true, c), rfl, rfl, ?_, ?_⟩
              · clear hfin hok; revert c; decide +kernel
              rintro a w_ hSw ⟨t0, t1, t2, rfl, hn⟩
              dsimp only at hn ⊢
              refine wpOp_step (i := 0) rfl (fun K hK => ?_)
              have HK : Shut _ := hK
              clear hK
              rw [HA0.out]
              simp only [Act.put, List.setIfInBounds_toArray, List.set_cons_zero, List.set_cons_succ]
              have kk := box8_cells hn.row
              go_simp
              exact HK.out _ _ ⟨trivial, _, t1, t2, (by rw [HA0.out]; simp only [Act.put, List.setIfInBounds_toArray, List.set_cons_zero, List.set_cons_succ]), ⟨fun _ => rfl, hn.c1, hn.c2, hn.row, hn.bel, hn.lt⟩⟩
            · obtain ⟨rfl, rfl⟩ := hi
              refine ⟨(x, 1), rfl, rfl, ?_, ?_⟩
              · clear hfin hok; revert x; decide +kernel
              rintro a w_ hSw ⟨t0, t1, t2, rfl, hn⟩
              dsimp only at hn ⊢
              refine wpOp_step (i := 1) rfl (fun K hK => ?_)
              have HK : Shut _ := hK
              clear hK
              rw [HA0.out]
              simp only [Act.put, List.setIfInBounds_toArray, List.set_cons_zero, List.set_cons_succ]
              have kk := box8_cells hn.row
              go_simp
              exact HK.out _ _ ⟨trivial, t0, _, t2, (by rw [HA0.out]; simp only [Act.put, List.setIfInBounds_toArray, List.set_cons_zero, List.set_cons_succ]), ⟨hn.x, fun _ => rfl, fun h => absurd h (by decide), hn.row, hn.bel, hn.lt⟩⟩
            · obtain ⟨rfl, rfl⟩ := hi
              refine ⟨(x, 2), rfl, rfl, ?_, ?_⟩
              · clear hfin hok; revert x; decide +kernel
              rintro a w_ hSw ⟨t0, t1, t2, rfl, hn⟩
              dsimp only at hn ⊢
              refine wpOp_step (i := 2) rfl (fun K hK => ?_)
              have HK : Shut _ := hK
              clear hK
              rw [HA0.out]
              simp only [Act.put, List.setIfInBounds_toArray, List.set_cons_zero, List.set_cons_succ]
              obtain rfl := hn.c1 (by decide)
              go_simp
              go_at_call 22
              refine Calls.mono (KW.out _) ?_
              rintro e w2 ⟨rfl, hb2⟩
              have hn2 := hn.on hb2
              go_wp2_with fail
              exact HK.out _ _ ⟨trivial, t0, _, _, (by rw [HA0.out]; simp only [Act.put, List.setIfInBounds_toArray, List.set_cons_zero, List.set_cons_succ]), ⟨hn2.x, fun _ => rfl, fun _ => rfl, hn2.row, hn2.bel, hn2.lt⟩⟩
          · rintro ⟨x, c⟩ a w_ f2 hok hfin hf hSw ⟨t0, t1, t2, rfl, hn⟩
            dsimp only at hok hfin hf hn ⊢
            obtain ⟨rfl, rfl⟩ : c = 2 ∧ x = true := by simpa using hfin
            obtain ⟨f3, rfl⟩ : ∃ f3, f2 = f3 + 2 := ⟨f2 - 2, by have h3 : 2 ≤ f2 := (by first | exact hf | simpa using hf); omega⟩
            obtain rfl := hn.x rfl
            obtain rfl := hn.c1 (by decide)
            obtain rfl := hn.c2 rfl
            rw [HA0.out]
            simp only [Act.put, List.setIfInBounds_toArray, List.set_cons_zero, List.set_cons_succ]
            refine wpAnyH_ready (rs := [3]) (by kernel_rfl) (by simp) ?_
            refine AllReadyH.cons rfl (fun K hK => ?_) AllReadyH.nil
            go_simp
            go_at_call 19
            refine Calls.mono (KG.out _) ?_
            rintro e w8 ⟨rfl, hb8⟩
            have hn8 := hn.on hb8
            go_wp2_with fail
            refine hK.out _ _ trivial (fun hHeld2 => ?_)
            clear hK K
            simp only [Act.put, List.setIfInBounds_toArray, List.set_cons_zero, List.set_cons_succ]
            refine wpAnyH_ready (rs := [4]) (by kernel_rfl) (by simp) ?_
            refine AllReadyH.cons rfl (fun K hK => ?_) AllReadyH.nil
            have kk := box8_cells hn8.row
            go_simp
            have HPn : Hid (((((((((w8.setCell ⟨B, 0, none⟩ (.int .i64 2)).setCell ⟨B, 1, none⟩ (.int .i64 1)).setCell ⟨B, 2, none⟩ (.int .i64 50)).setCell ⟨B, 3, none⟩ (.int .i64 0)).setCell ⟨B, 4, none⟩ (.int .i64 0)).setCell ⟨B, 5, none⟩ (.int .i64 0)).setCell ⟨B, 6, none⟩ (.int .i64 v)).setCell ⟨B, 7, none⟩ (.int .i64 0)).heap[B]? = some (.cells #[.int .i64 2, .int .i64 1, .int .i64 50, .int .i64 0, .int .i64 0, .int .i64 0, .int .i64 v, .int .i64 0] 27)) := set8_row (2) (1) (50) (0) (0) (0) (v) (0) hn8.row
            have HBn : Hid (Below (B) wA ((((((((w8.setCell ⟨B, 0, none⟩ (.int .i64 2)).setCell ⟨B, 1, none⟩ (.int .i64 1)).setCell ⟨B, 2, none⟩ (.int .i64 50)).setCell ⟨B, 3, none⟩ (.int .i64 0)).setCell ⟨B, 4, none⟩ (.int .i64 0)).setCell ⟨B, 5, none⟩ (.int .i64 0)).setCell ⟨B, 6, none⟩ (.int .i64 v)).setCell ⟨B, 7, none⟩ (.int .i64 0))) := set8_bel (2) (1) (50) (0) (0) (0) (v) (0) hn8.bel hn8.lt
            refine hK.out _ _ trivial (fun hHeld3 => ?_)
            clear hK K hHeld2 hHeld3 hn hn8 hb8 kk
            simp only [Act.put, List.setIfInBounds_toArray, List.set_cons_zero, List.set_cons_succ]
            refine wpAnyH_done (by kernel_rfl) ?_ _
            generalize ((((((((w8.setCell ⟨B, 0, none⟩ (.int .i64 2)).setCell ⟨B, 1, none⟩ (.int .i64 1)).setCell ⟨B, 2, none⟩ (.int .i64 50)).setCell ⟨B, 3, none⟩ (.int .i64 0)).setCell ⟨B, 4, none⟩ (.int .i64 0)).setCell ⟨B, 5, none⟩ (.int .i64 0)).setCell ⟨B, 6, none⟩ (.int .i64 v)).setCell ⟨B, 7, none⟩ (.int .i64 0)) = w9 at *
            clear HPr HBe KW KG
            clear pr orr HOr
            have qn := box8_cells HPn.out
            go_wp2
            go_roundg (gk - 1)
            case measure => omega
            case rel => exact ⟨j + 1, 2, 1, 50, 0, 0, v, hlt2, by go_num, HN2, HPn, HBn⟩
        · obtain ⟨s2, a2, b2, R3, L2, hp2⟩ : ∃ s2 a2 b2 R3 L2 : Int, volP n d v q2 R2 = ⟨s2, a2, b2, R3, L2, 0, q2, 0⟩ := by
            unfold volP
            by_cases h : q2 < v
            · rw [if_pos h]
              exact ⟨_, _, _, _, _, rfl⟩
            · rw [if_neg h]
              exact ⟨2, 1, 50, 0, 0, pm_eqV rfl rfl rfl rfl rfl rfl (show v = q2 by omega) rfl⟩
          have KG : Hid (∀ w, Calls Try.prog 19 #[.agg #[.int .i64 1, .int .i64 n, .int .i64 d, .int .i64 R', .int .i64 L, .int .i64 0, .int .i64 G', .int .i64 0], .int .i64 W] w fun e w' => e = .returned (.agg #[.int .i64 s2, .int .i64 a2, .int .i64 b2, .int .i64 R3, .int .i64 L2, .int .i64 0, .int .i64 q2, .int .i64 0]) ∧ Below w.heap.size w w') := fun w => by
            have h := KG0.out w
            rw [hp2] at h
            exact h
          have HN2 : Hid (volP n d v (((j + 1 : Nat) : Int) * n / d) (((j + 1 : Nat) : Int) * n % d) = ⟨s2, a2, b2, R3, L2, 0, q2, 0⟩) := HN.out.trans hp2
          clear KG0 HN hp2
          go_upto_region 12 with fail
          clear u1 u2 u3 u4 u5 u6
          refine wp_region_held_drew (S := fun w' => True) (by kernel_rfl) trivial (fun hHeld => ?_)
          refine wpAnyH_named (fun a0 ha0 => ?_)
          have HA0 : Hid (a0 = _) := ha0
          clear ha0
          refine any_states (σ := Bool × Fin 3) (fun s => #[s.1, decide (0 < s.2), decide (1 < s.2), false, false]) (fun s => (if s.1 = true then [] else [0]) ++ (if s.2 = 0 then [1] else []) ++ (if s.2 = 1 then [2] else [])) (fun s => 2 + (if s.1 then 0 else 1) + (2 - s.2.val)) (fun s => true) (fun s => decide (s.2 = 2) && s.1) (fun q a w_ => ∃ t0 t1 t2 : Value, a = ((a0.put (some 60) t0).put (some 61) t1).put (some 62) t2 ∧ PG (B) (B) wA (1) (n) (d) (R') (L) (0) (G') (0) (W) q.1 q.2 t0 t1 t2 w_) ?_ ?_ ?_ 5 (false, 0) _ _ _ (by decide) (by decide) (by decide) trivial ⟨a0.tmps.getD 60 undef, a0.tmps.getD 61 undef, a0.tmps.getD 62 undef, (by simp only [put_self]), ⟨fun h => absurd h (by simp), fun h => absurd h (by simp), fun h => absurd h (by simp), HPr.out, HBe.out.drew, HLe.out⟩⟩
          · rintro ⟨x, c⟩
            dsimp only
            revert x c
            decide +kernel
          · rintro ⟨x, c⟩ i hok hfin hi
            dsimp only at hok hfin hi
            simp only [List.mem_append, mem_ifn, mem_ifc] at hi
            rcases hi with (hi | hi) | hi
            · obtain ⟨hx, rfl⟩ := hi
              subst hx
              refine ⟨(true, c), rfl, rfl, ?_, ?_⟩
              · clear hfin hok; revert c; decide +kernel
              rintro a w_ hSw ⟨t0, t1, t2, rfl, hn⟩
              dsimp only at hn ⊢
              refine wpOp_step (i := 0) rfl (fun K hK => ?_)
              have HK : Shut _ := hK
              clear hK
              rw [HA0.out]
              simp only [Act.put, List.setIfInBounds_toArray, List.set_cons_zero, List.set_cons_succ]
              have kk := box8_cells hn.row
              go_simp
              exact HK.out _ _ ⟨trivial, _, t1, t2, (by rw [HA0.out]; simp only [Act.put, List.setIfInBounds_toArray, List.set_cons_zero, List.set_cons_succ]), ⟨fun _ => rfl, hn.c1, hn.c2, hn.row, hn.bel, hn.lt⟩⟩
            · obtain ⟨rfl, rfl⟩ := hi
              refine ⟨(x, 1), rfl, rfl, ?_, ?_⟩
              · clear hfin hok; revert x; decide +kernel
              rintro a w_ hSw ⟨t0, t1, t2, rfl, hn⟩
              dsimp only at hn ⊢
              refine wpOp_step (i := 1) rfl (fun K hK => ?_)
              have HK : Shut _ := hK
              clear hK
              rw [HA0.out]
              simp only [Act.put, List.setIfInBounds_toArray, List.set_cons_zero, List.set_cons_succ]
              have kk := box8_cells hn.row
              go_simp
              exact HK.out _ _ ⟨trivial, t0, _, t2, (by rw [HA0.out]; simp only [Act.put, List.setIfInBounds_toArray, List.set_cons_zero, List.set_cons_succ]), ⟨hn.x, fun _ => rfl, fun h => absurd h (by decide), hn.row, hn.bel, hn.lt⟩⟩
            · obtain ⟨rfl, rfl⟩ := hi
              refine ⟨(x, 2), rfl, rfl, ?_, ?_⟩
              · clear hfin hok; revert x; decide +kernel
              rintro a w_ hSw ⟨t0, t1, t2, rfl, hn⟩
              dsimp only at hn ⊢
              refine wpOp_step (i := 2) rfl (fun K hK => ?_)
              have HK : Shut _ := hK
              clear hK
              rw [HA0.out]
              simp only [Act.put, List.setIfInBounds_toArray, List.set_cons_zero, List.set_cons_succ]
              obtain rfl := hn.c1 (by decide)
              go_simp
              go_at_call 22
              refine Calls.mono (KW.out _) ?_
              rintro e w2 ⟨rfl, hb2⟩
              have hn2 := hn.on hb2
              go_wp2_with fail
              exact HK.out _ _ ⟨trivial, t0, _, _, (by rw [HA0.out]; simp only [Act.put, List.setIfInBounds_toArray, List.set_cons_zero, List.set_cons_succ]), ⟨hn2.x, fun _ => rfl, fun _ => rfl, hn2.row, hn2.bel, hn2.lt⟩⟩
          · rintro ⟨x, c⟩ a w_ f2 hok hfin hf hSw ⟨t0, t1, t2, rfl, hn⟩
            dsimp only at hok hfin hf hn ⊢
            obtain ⟨rfl, rfl⟩ : c = 2 ∧ x = true := by simpa using hfin
            obtain ⟨f3, rfl⟩ : ∃ f3, f2 = f3 + 2 := ⟨f2 - 2, by have h3 : 2 ≤ f2 := (by first | exact hf | simpa using hf); omega⟩
            obtain rfl := hn.x rfl
            obtain rfl := hn.c1 (by decide)
            obtain rfl := hn.c2 rfl
            rw [HA0.out]
            simp only [Act.put, List.setIfInBounds_toArray, List.set_cons_zero, List.set_cons_succ]
            refine wpAnyH_ready (rs := [3]) (by kernel_rfl) (by simp) ?_
            refine AllReadyH.cons rfl (fun K hK => ?_) AllReadyH.nil
            go_simp
            go_at_call 19
            refine Calls.mono (KG.out _) ?_
            rintro e w8 ⟨rfl, hb8⟩
            have hn8 := hn.on hb8
            go_wp2_with fail
            refine hK.out _ _ trivial (fun hHeld2 => ?_)
            clear hK K
            simp only [Act.put, List.setIfInBounds_toArray, List.set_cons_zero, List.set_cons_succ]
            refine wpAnyH_ready (rs := [4]) (by kernel_rfl) (by simp) ?_
            refine AllReadyH.cons rfl (fun K hK => ?_) AllReadyH.nil
            have kk := box8_cells hn8.row
            go_simp
            have HPn : Hid (((((((((w8.setCell ⟨B, 0, none⟩ (.int .i64 s2)).setCell ⟨B, 1, none⟩ (.int .i64 a2)).setCell ⟨B, 2, none⟩ (.int .i64 b2)).setCell ⟨B, 3, none⟩ (.int .i64 R3)).setCell ⟨B, 4, none⟩ (.int .i64 L2)).setCell ⟨B, 5, none⟩ (.int .i64 0)).setCell ⟨B, 6, none⟩ (.int .i64 q2)).setCell ⟨B, 7, none⟩ (.int .i64 0)).heap[B]? = some (.cells #[.int .i64 s2, .int .i64 a2, .int .i64 b2, .int .i64 R3, .int .i64 L2, .int .i64 0, .int .i64 q2, .int .i64 0] 27)) := set8_row (s2) (a2) (b2) (R3) (L2) (0) (q2) (0) hn8.row
            have HBn : Hid (Below (B) wA ((((((((w8.setCell ⟨B, 0, none⟩ (.int .i64 s2)).setCell ⟨B, 1, none⟩ (.int .i64 a2)).setCell ⟨B, 2, none⟩ (.int .i64 b2)).setCell ⟨B, 3, none⟩ (.int .i64 R3)).setCell ⟨B, 4, none⟩ (.int .i64 L2)).setCell ⟨B, 5, none⟩ (.int .i64 0)).setCell ⟨B, 6, none⟩ (.int .i64 q2)).setCell ⟨B, 7, none⟩ (.int .i64 0))) := set8_bel (s2) (a2) (b2) (R3) (L2) (0) (q2) (0) hn8.bel hn8.lt
            refine hK.out _ _ trivial (fun hHeld3 => ?_)
            clear hK K hHeld2 hHeld3 hn hn8 hb8 kk
            simp only [Act.put, List.setIfInBounds_toArray, List.set_cons_zero, List.set_cons_succ]
            refine wpAnyH_done (by kernel_rfl) ?_ _
            generalize ((((((((w8.setCell ⟨B, 0, none⟩ (.int .i64 s2)).setCell ⟨B, 1, none⟩ (.int .i64 a2)).setCell ⟨B, 2, none⟩ (.int .i64 b2)).setCell ⟨B, 3, none⟩ (.int .i64 R3)).setCell ⟨B, 4, none⟩ (.int .i64 L2)).setCell ⟨B, 5, none⟩ (.int .i64 0)).setCell ⟨B, 6, none⟩ (.int .i64 q2)).setCell ⟨B, 7, none⟩ (.int .i64 0)) = w9 at *
            clear HPr HBe KW KG
            clear pr orr HOr
            have qn := box8_cells HPn.out
            go_wp2
            go_roundg (gk - 1)
            case measure => omega
            case rel => exact ⟨j + 1, s2, a2, b2, R3, L2, q2, hlt2, by go_num, HN2, HPn, HBn⟩
      · obtain rfl : j = m := by omega
        have hF := HF.out
        unfold volP at hF
        rw [if_neg (vol_last HV.out HM1.out)] at hF
        injection hF with e1 e2 e3 e4 e5 e6 e7 e8
        subst e1 e2 e3 e4 e5 e7
        obtain ⟨M1, hM1⟩ : ∃ M1, (j : Int) - 1 = M1 := ⟨_, rfl⟩
        obtain ⟨X, hX⟩ : ∃ X, v * d = X := ⟨_, rfl⟩
        obtain ⟨X1, hX1⟩ : ∃ X1, M1 * n = X1 := ⟨_, rfl⟩
        obtain ⟨X2, hX2⟩ : ∃ X2, (j : Int) * n = X2 := ⟨_, rfl⟩
        have k1 := HM1.out
        have k2 := HM2.out
        rw [hX, hX2] at k1
        rw [hM1, hX1, hX] at k2
        have b1 : 0 ≤ X1 := by rw [← hX1]; exact Int.mul_nonneg (by omega) (by omega)
        have b2 : X ≤ 540 := by rw [← hX]; have := Int.mul_le_mul (a := v) (b := d) (c := 60) (d := 9) (by omega) (by omega) (by omega) (by omega); omega
        have b3 : 0 ≤ X2 ∧ X2 ≤ 100000 := by
          rw [← hX2]
          refine ⟨Int.mul_nonneg (by omega) (by omega), ?_⟩
          have := Int.mul_le_mul (a := (j : Int)) (b := n) (c := 1000) (d := 27) (by omega) (by omega) (by omega) (by omega)
          omega
        have u0 : IntKind.i64.wrap ((j : Int) - 1) = M1 := by rw [hM1]; exact wrap_in (by omega) (by omega)
        have u1 : IntKind.i64.wrap (M1 * n) = X1 := by rw [hX1]; exact wrap_in (by omega) (by omega)
        have u2 : wrap64 (M1 * n) = X1 := by rw [hX1]; exact wrap64_in (by omega) (by omega)
        have u3 : IntKind.i64.wrap (v * d) = X := by rw [hX]; exact wrap_in (by omega) (by omega)
        have u4 : wrap64 (v * d) = X := by rw [hX]; exact wrap64_in (by omega) (by omega)
        have u5 : IntKind.i64.wrap ((j : Int) * n) = X2 := by rw [hX2]; exact wrap_in (by omega) (by omega)
        have u6 : wrap64 ((j : Int) * n) = X2 := by rw [hX2]; exact wrap64_in (by omega) (by omega)
        have pr := box8_cells HPr.out
        have orr := box4_cells HOr.out
        have HBf : Hid (Below w1.heap.size w1 wr) := HB6.out.trans (HBe.out.mono (Nat.le_of_lt (Nat.lt_of_le_of_lt hE1 hEB)))
        clear e6 e8 HF HM1 HM2 hM1 hX hX1 hX2 hj hlt hm3 hm4 HBe HB6 HS6 HV hd1 hd9 hn1 hn3 hv1 hv60 b1 b2 b3
        go_wp2
        go_ret
        exact ⟨by simp, HBf.out⟩
end Go.Proofs.Ytpjnmkijndmemaa
