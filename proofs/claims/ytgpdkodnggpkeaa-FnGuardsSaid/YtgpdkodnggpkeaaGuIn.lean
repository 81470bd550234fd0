/-
  FnGuards over bytes that are few enough.
-/
import Derived.Test.YtgpdkodnggpkeaaDrawGe
import Derived.Test.YtgpdkodnggpkeaaPlacesD
import Derived.Test.YtgpdkodnggpkeaaRowD
import Derived.Test.YtgpdkodnggpkeaaGuM
import Derived.Test.YtgpdkodnggpkeaaGdI
import Derived.Deep.CutBlock
import Derived.Deep.DeepCutAuto
namespace Go.Proofs.Ytgpdkodnggpkeaa
open Go.RowKit Go.PlainAid
set_option linter.unusedVariables false
set_option linter.unusedSimpArgs false

/-- what stands through FnGuards: the places, the guard, what was passed -/
structure RG (w0 W : World) (gp : Nat) (ps : List Int) (P : Nat) (q : Option Addr) (n c : Nat) (l : List Int) (al : Int) (go no co : Nat) (R : List Int) : Prop where
  pl : ∀ j (hj : j < ps.length), W.cell? ⟨gp, j, none⟩ = some (.int .i64 ps[j])
  rp : W.heap[P]? = some (.cells #[.slice q n c, .int .i64 al] 26)
  op : GOwn W w0.heap.size q n c l
  oR : OwnN W w0.heap.size go no co R
  ne : (∀ g, q = some ⟨g, 0, none⟩ → g ≠ go) ∧ gp ≠ go ∧ P ≠ go ∧ w0.heap.size ≤ P
  bel : Below w0.heap.size w0 W
theorem RG.on {w0 W W' : World} {gp : Nat} {ps : List Int} {P : Nat} {q : Option Addr} {n c : Nat} {l : List Int} {al : Int} {go no co : Nat} {R : List Int} (h : RG w0 W gp ps P q n c l al go no co R) (hb : Below W.heap.size W W') : RG w0 W' gp ps P q n c l al go no co R :=
  ⟨fun j hj => cell_on (h.pl j hj) hb, row_on h.rp hb, h.op.on hb, h.oR.on hb, h.ne, bel_on (Nat.le_refl _) h.bel hb⟩
theorem RG.drew {w0 W : World} {gp : Nat} {ps : List Int} {P : Nat} {q : Option Addr} {n c : Nat} {l : List Int} {al : Int} {go no co : Nat} {R : List Int} (h : RG w0 W gp ps P q n c l al go no co R) : RG w0 W.drew gp ps P q n c l al go no co R :=
  ⟨h.pl, h.rp, h.op, h.oR, h.ne, h.bel.drew⟩
theorem GOwn.lt {W : World} {B : Nat} {q : Option Addr} {n c : Nat} {l : List Int} (h : GOwn W B q n c l) (g : Nat) (hq : q = some ⟨g, 0, none⟩) : g < W.heap.size := by
  rcases h with ⟨e, _⟩ | ⟨g', e, h⟩
  · rw [e] at hq; cases hq
  · rw [e] at hq; cases hq; exact h.lt
theorem GOwn.grown' {W W' : World} {B C : Nat} {q : Option Addr} {n c : Nat} {l : List Int} (h : GOwn W B q n c l) (hg : W.grownBy W' (some C)) (hC : ∀ g, q = some ⟨g, 0, none⟩ → g ≠ C) : GOwn W' B q n c l := by
  rcases h with h | ⟨g, rfl, h⟩
  · exact .inl h
  · exact .inr ⟨g, rfl, h.grown hg (fun e => hC g rfl e.symm)⟩
/-- a number is put behind what was passed -/
theorem RG.app {w0 W W' : World} {gp : Nat} {ps : List Int} {P : Nat} {q : Option Addr} {n c : Nat} {l : List Int} {al : Int} {go no co : Nat} {R R' : List Int} {g' c' m : Nat} (h : RG w0 W gp ps P q n c l al go no co R) (hlen : 0 < ps.length) (ho : OwnN W' w0.heap.size g' m c' R') (hg : W.grownBy W' (some go)) (hat : g' = go ∨ g' = W.heap.size) : RG w0 W' gp ps P q n c l al g' m c' R' := by
  have b : ∀ m o, W.heap[m]? = some o → m ≠ go → W'.heap[m]? = some o := fun m o hm hne => (hg.block m (row_lt hm) (fun e => hne (Option.some.inj e))).trans hm
  have hgp : gp < W.heap.size := World.block_lt_of_cell? W _ (h.pl 0 hlen)
  refine ⟨fun j hj => (hg.cell_far ⟨gp, j, none⟩ hgp (fun e => h.ne.2.1 (Option.some.inj e))).trans (h.pl j hj), b _ _ h.rp h.ne.2.2.1, h.op.grown' hg h.ne.1, ho, ?_, h.bel.grown hg h.bel.size (fun k hk => by cases hk; exact h.oR.ge)⟩
  rcases hat with rfl | rfl
  · exact h.ne
  · have hp := row_lt h.rp
    exact ⟨fun g e => Nat.ne_of_lt (h.op.lt g e), Nat.ne_of_lt hgp, Nat.ne_of_lt hp, h.ne.2.2.2⟩
/-- another guard is stored in its place -/
theorem RG.put {w0 W W' : World} {gp : Nat} {ps : List Int} {P : Nat} {q : Option Addr} {n c : Nat} {l : List Int} {al : Int} {go no co : Nat} {R : List Int} {q' : Option Addr} {n' c' : Nat} {l' : List Int} {al' : Int} (h : RG w0 W gp ps P q n c l al go no co R) (hP : gp ≠ P) (hp : PutG W W' P (.cells #[.slice q' n' c', .int .i64 al'] 26)) (ho : GOwn W w0.heap.size q' n' c' l') (hne : ∀ g, q' = some ⟨g, 0, none⟩ → g ≠ P ∧ g ≠ go) : RG w0 W' gp ps P q' n' c' l' al' go no co R := by
  refine ⟨fun j hj => ?_, hp.1, ?_, own_same h.oR (hp.2.1 _ (Ne.symm h.ne.2.2.1)), ⟨fun g e => (hne g e).2, h.ne.2⟩, hp.2.2.2 _ _ h.ne.2.2.2 h.bel⟩
  · have := h.pl j hj
    unfold World.cell? at this ⊢
    rw [hp.2.1 gp hP]
    exact this
  · rcases ho with ho | ⟨g, rfl, ho⟩
    · exact .inl ho
    · exact .inr ⟨g, rfl, own_same ho (hp.2.1 g (hne g rfl).1)⟩
theorem ownOne (w : World) (B : Nat) (v : Int) : Rd (w.alloc (.cells #[.int .i64 v] 3)) (some ⟨w.heap.size, 0, none⟩) [v] := rd_one w v
set_option maxRecDepth 100000 in
set_option maxHeartbeats 20000000 in
theorem guards_in (a : Option Addr) (len cap : Nat) (hb : len ≤ 1048576) (w : World) (hcode : D.CodeOk w w.heap.size a len) :
    Calls Try.prog 3 #[.slice a len cap] w fun e w' => e = .returned (.bool true) ∧ Below w.heap.size w w' := by
  have HC : Hid (D.CodeOk w w.heap.size a len) := hcode
  clear hcode
  go_enter Try.func3, Try.ntmps3
  go_wp2_with fail
  refine (D.big5 a len cap (by omega) _).mono ?_
  rintro e w1 ⟨rfl, rfl⟩
  rw [decide_eq_false (by omega)]
  go_wp2_with fail
  refine (D.drawGd w1.heap.size a len cap _ HC.out (Nat.le_refl _)).mono ?_
  rintro e w2 ⟨q, n, c, l, al, rfl, hown, hgd, hb2⟩
  have HG : Hid (GdR l 0) := gd_calm hgd
  have hn9 : n ≤ 9 := by have := hgd.1; have := hown.len; omega
  have HL : Hid (l.length = n) := hown.len
  have HO3 : Hid (GOwn (w2.alloc (.cells #[.slice q n c, .int .i64 al] 26)) w1.heap.size q n c l) := hown.on (alG _ _)
  have HP3 : Hid ((w2.alloc (.cells #[.slice q n c, .int .i64 al] 26)).heap[w2.heap.size]? = some (.cells #[.slice q n c, .int .i64 al] 26)) := heap_new w2 _
  have HB3 : Hid (Below w1.heap.size w1 (w2.alloc (.cells #[.slice q n c, .int .i64 al] 26))) := bel_on (Nat.le_refl _) hb2 (alG _ _)
  have HC3 : Hid (D.CodeOk (w2.alloc (.cells #[.slice q n c, .int .i64 al] 26)) w1.heap.size a len) := D.code_below HC.out HB3.out
  have hq2 : ∀ g, q = some ⟨g, 0, none⟩ → g ≠ w2.heap.size := fun g e => Nat.ne_of_lt (hown.lt g e)
  have hl2 : w1.heap.size ≤ w2.heap.size := hb2.size
  obtain ⟨P, hP⟩ : ∃ P, w2.heap.size = P := ⟨_, rfl⟩
  clear hown hgd hb2 HC
  go_wp2_with fail
  refine (D.places17 w1.heap.size a len cap _ HC3.out HB3.out.size).mono ?_
  rintro e w4 ⟨gp, cp, ps, rfl, hps, hsm, hgp, hcl, hb4⟩
  rw [hP] at HP3 hq2 hl2
  have hgpP : gp ≠ P := by simp at hgp; omega
  rw [hps]
  have HPS : Hid (ps.length = 12) := hps
  have HSM : Hid (D.Small ps) := hsm
  have HO4 : Hid (GOwn w4 w1.heap.size q n c l) := HO3.out.on hb4
  have HP4 : Hid (w4.heap[P]? = some (.cells #[.slice q n c, .int .i64 al] 26)) := row_on HP3.out hb4
  have HB4 : Hid (Below w1.heap.size w1 w4) := bel_on (Nat.le_refl _) HB3.out hb4
  obtain ⟨go, hgo⟩ : ∃ go, w4.heap.size = go := ⟨_, rfl⟩
  have hP4 := row_lt HP4.out
  have HR5 : Hid (RG w1 (w4.alloc (.cells #[] 3)) gp ps P q n c l al go 0 0 []) := by
    have hg4 : gp < w4.heap.size := World.block_lt_of_cell? w4 _ (hcl 0 (by omega))
    rw [← hgo]
    exact ⟨fun j hj => cell_on (hcl j hj) (alG _ _), row_on HP4.out (alG _ _), HO4.out.on (alG _ _), own_new w4 _ HB4.out.size, ⟨fun g e => Nat.ne_of_lt (HO4.out.lt g e), Nat.ne_of_lt hg4, Nat.ne_of_lt hP4, hl2⟩, bel_on (Nat.le_refl _) HB4.out (alG _ _)⟩
  clear hb4 HO3 HP3 HB3 HC3 hP hgp hcl HO4 HP4 HB4 hsm hps hP4
  go_wp2_with (refine listStoreI rfl rfl _ _ _ rfl rfl P 1 0 rfl rfl HR5.out.rp (by simp) ?_)
  intro w5 hput
  have HR6 : Hid (RG w1 w5 gp ps P q n c l 0 go 0 0 []) := HR5.out.put hgpP hput HR5.out.op (fun g e => ⟨hq2 g e, HR5.out.ne.1 g e⟩)
  clear hput HR5 hgo
  have k6 := row2_cells HR6.out.rp
  have u0 : IntKind.i64.wrap ((n : Int) - 1) = (n : Int) - 1 := wrap_in (by omega) (by omega)
  go_wp2
  go_loopg [5, 6] n (fun gk s i wr => ∃ (I : Int) (go no co : Nat), gk ≤ n ∧ i = .int .i64 I ∧ s = .slice (some ⟨go, 0, none⟩) no co ∧ Hid (I = (gk : Int) - 1) ∧ Hid (no = n - gk) ∧ Hid (RG w1 wr gp ps P q n c l 0 go no co (l.drop gk).reverse))
  case atStart => exact ⟨_, go, 0, 0, Nat.le_refl _, rfl, rfl, rfl, by show 0 = n - n; omega, by have h := HR6.out; rw [show (l.drop n).reverse = [] from by rw [List.drop_eq_nil_of_le (by rw [HL.out]; exact Nat.le_refl _)]; rfl]; exact h⟩
  case round =>
    clear HR6 k6
    obtain ⟨I, go, no, co, hgk, rfl, rfl, HI, HNO, HR⟩ := hrel
    have kr := row2_cells HR.out.rp
    cases gk with
    | zero =>
      have hI : I = -1 := by have := HI.out; omega
      subst hI
      have HNn : Hid (no = n) := by have := HNO.out; show no = n; omega
      have HR0 : Hid (RG w1 wr gp ps P q n c l 0 go no co l.reverse) := HR.out
      clear HR HI HNO
      have HPa : Hid (Pas l.reverse l) := pas_start HG.out
      go_wp2
      go_loopg [5, 7] 12 (fun gk s i wr => ∃ (j : Nat) (q : Option Addr) (n c : Nat) (l R : List Int) (go no co : Nat), j + gk = 12 ∧ i = .int .i64 j ∧ s = .slice (some ⟨go, 0, none⟩) no co ∧ Hid (GdR l 0) ∧ Hid (Pas R l) ∧ Hid (no ≤ 9 + j) ∧ Hid (RG w1 wr gp ps P q n c l 0 go no co R))
      case atStart => exact ⟨0, q, n, c, l, l.reverse, go, no, co, by omega, rfl, rfl, HG, HPa, by have := HNn.out; show no ≤ 9 + 0; omega, HR0⟩
      case round =>
        clear HR0 HPa HNn HG HL kr hgk
        clear hn9 hq2 u0
        obtain ⟨j, q, n, c, l, R, go, no, co, hj, rfl, rfl, HG, HPa, HNo, HR⟩ := hrel
        have hn9 : n ≤ 9 := by have := HG.out.1; have := HR.out.op.len; omega
        have HL : Hid (l.length = n) := HR.out.op.len
        by_cases hlt : j < 12
        · have hjp : j < ps.length := by have := HPS.out; omega
          obtain ⟨pj, hpj⟩ : ∃ pj, ps[j] = pj := ⟨_, rfl⟩
          have hp0 : 0 ≤ pj ∧ pj ≤ 9999 := by rw [← hpj]; exact HSM.out _ (List.getElem_mem _)
          obtain ⟨x, hx⟩ : ∃ x, pj.tmod 9 = x := ⟨_, rfl⟩
          have hx0 : 0 ≤ x ∧ x ≤ 8 := by rw [← hx, Int.tmod_eq_emod_of_nonneg hp0.1]; omega
          obtain ⟨v, hv⟩ : ∃ v, letG l x = v := ⟨_, rfl⟩
          obtain ⟨R0, hR0⟩ : ∃ R0, 30 - sumN l = R0 := ⟨_, rfl⟩
          have hvb := letG_bd HG.out x
          rw [hv, hR0] at hvb
          have hvx : ¬ x < v := by have h : max (min x (30 - sumN l)) 0 = v := hv; rw [hR0] at h; omega
          have hvr : ¬ R0 < v := by omega
          have HZ : Hid ((if true = true ∧ (0 : Int) = 0 then letG l x else 0) = v) := by show _ = _; rw [if_pos ⟨rfl, rfl⟩]; exact hv
          have HRM : Hid (IntKind.i64.wrap (30 - sumW l) = R0) := by have h := (room_bd HG.out).1; rw [hR0] at h; exact h
          obtain ⟨Y, hY⟩ : ∃ Y, (v :: l).take 9 = Y := ⟨_, rfl⟩
          obtain ⟨m, hm⟩ : ∃ m, Y.length = m := ⟨_, rfl⟩
          have hvv : letG l v = v := by show max (min v (30 - sumN l)) 0 = v; rw [hR0]; omega
          have HYp : Hid (passL true l v = Y) := by show _ = _; unfold passL; rw [if_pos rfl, hvv]; exact hY
          have HM : Hid (Y.length = m) := hm
          have hm0 : 0 < m := by rw [← hm, ← hY]; simp
          have hY0 : ∀ h : 0 < Y.length, Y[0] = v := by rw [← hY]; intro h; simp
          have HGY : Hid (GdR Y 0) := by show GdR Y 0; have h := pass_ok HG.out x; rw [hv, hY] at h; exact h
          have HPY : Hid (Pas (R ++ [v]) Y) := by show Pas _ _; have h := pas_step HPa.out HG.out x; rw [hv, hY] at h; exact h
          have HVL : Hid (0 < (v :: l).length) := by show 0 < _; simp
          have hj12 : (j : Int) < 12 := by omega
          have u1 : IntKind.i64.wrap ((j : Int) + 1) = (j : Int) + 1 := wrap_in (by omega) (by omega)
          have HNN : Hid (q = none → n = 0 ∧ c = 0) := HR.out.op.nn
          have HRd : Hid (RG w1 wr.drew gp ps P q n c l 0 go no co R) := HR.out.drew
          have HX9 : Hid (pj.tmod 9 = x) := hx
          clear hv hR0 hvb hY hm hvv hp0 hx0
          go_upto_region 14 with fail
          refine wp_region_held_drew (S := fun w' => RG w1 w' gp ps P q n c l 0 go no co R) (by kernel_rfl) HRd.out (fun hHeld => ?_)
          refine wpAnyH_take (i := 0) (v := ?_) rfl (by kernel_rfl) (by kernel_rfl) (by kernel_rfl) (fun _ _ _ h => h) (Or.inl ⟨by rfl, ?_⟩) (by assumption) ?_
          rotate_left
          · intro w_ hSw; (try dsimp only at hSw); have qa_ := row2_cells hSw.rp; go_simp <;> with_reducible rfl
          try simp only [Act.put, List.setIfInBounds_toArray, List.set_cons_zero, List.set_cons_succ, List.getElem_toArray, List.getElem_cons_zero, List.getElem_cons_succ]
          refine wpAnyH_take (i := 1) (v := ?_) rfl (by kernel_rfl) (by kernel_rfl) (by kernel_rfl) (fun _ _ _ h => h) (Or.inl ⟨by rfl, ?_⟩) (by assumption) ?_
          rotate_left
          · intro w_ hSw; (try dsimp only at hSw); go_simp <;> with_reducible rfl
          try simp only [Act.put, List.setIfInBounds_toArray, List.set_cons_zero, List.set_cons_succ, List.getElem_toArray, List.getElem_cons_zero, List.getElem_cons_succ]
          refine wpAnyH_take (i := 2) (v := ?_) rfl (by kernel_rfl) (by kernel_rfl) (by kernel_rfl) (fun _ _ _ h => h) (Or.inl ⟨by rfl, ?_⟩) (by assumption) ?_
          rotate_left
          · intro w_ hSw; (try dsimp only at hSw); go_simp <;> with_reducible rfl
          try simp only [Act.put, List.setIfInBounds_toArray, List.set_cons_zero, List.set_cons_succ, List.getElem_toArray, List.getElem_cons_zero, List.getElem_cons_succ]
          refine wpAnyH_take (i := 3) (v := ?_) rfl (by kernel_rfl) (by kernel_rfl) (by kernel_rfl) (fun _ _ _ h => h) (Or.inl ⟨by rfl, ?_⟩) (by assumption) ?_
          rotate_left
          · intro w_ hSw; (try dsimp only at hSw); go_simp <;> with_reducible rfl
          try simp only [Act.put, List.setIfInBounds_toArray, List.set_cons_zero, List.set_cons_succ, List.getElem_toArray, List.getElem_cons_zero, List.getElem_cons_succ]
          refine wpAnyH_take (i := 4) (v := ?_) rfl (by kernel_rfl) (by kernel_rfl) (by kernel_rfl) (fun _ _ _ h => h) (Or.inl ⟨by rfl, ?_⟩) (by assumption) ?_
          rotate_left
          · intro w_ hSw; (try dsimp only at hSw); have qp_ := hSw.pl j hjp; rw [hpj] at qp_; go_simp <;> with_reducible rfl
          try simp only [Act.put, List.setIfInBounds_toArray, List.set_cons_zero, List.set_cons_succ, List.getElem_toArray, List.getElem_cons_zero, List.getElem_cons_succ]
          refine wpAnyH_take (i := 5) (v := ?_) rfl (by kernel_rfl) (by kernel_rfl) (by kernel_rfl) (fun _ _ _ h => h) (Or.inl ⟨by rfl, ?_⟩) (by assumption) ?_
          rotate_left
          · intro w_ hSw; (try dsimp only at hSw); have hX9_ := HX9.out; go_simp <;> with_reducible rfl
          try simp only [Act.put, List.setIfInBounds_toArray, List.set_cons_zero, List.set_cons_succ, List.getElem_toArray, List.getElem_cons_zero, List.getElem_cons_succ]
          refine wpAnyH_ready (rs := [6]) (by kernel_rfl) (by simp) ?_
          refine AllReadyH.cons rfl (fun J hJ => ?_) AllReadyH.nil
          go_simp
          go_at_call 13
          refine (allowI q 0 l n c x true v HL.out (by omega) ⟨fun _ => HG.out, fun _ => rfl⟩ HZ.out _ HRd.out.op.rd).mono ?_
          rintro e v1 ⟨rfl, hbc⟩
          have HR1 : Hid (RG w1 v1 gp ps P q n c l 0 go no co R) := HRd.out.on hbc
          go_wp2_with fail
          refine hJ.out _ _ HR1.out (fun hHeld6 => ?_)
          clear hJ J hbc
          try simp only [Act.put, List.setIfInBounds_toArray, List.set_cons_zero, List.set_cons_succ, List.getElem_toArray, List.getElem_cons_zero, List.getElem_cons_succ]
          refine wpAnyH_take (i := 7) (v := ?_) rfl (by kernel_rfl) (by kernel_rfl) (by kernel_rfl) (fun _ _ _ h => h) (Or.inl ⟨by rfl, ?_⟩) (by assumption) ?_
          rotate_left
          · intro w_ hSw; (try dsimp only at hSw); go_simp <;> with_reducible rfl
          try simp only [Act.put, List.setIfInBounds_toArray, List.set_cons_zero, List.set_cons_succ, List.getElem_toArray, List.getElem_cons_zero, List.getElem_cons_succ]
          refine wpAnyH_done (by kernel_rfl) ?_ _
          clear hHeld hHeld6 HRd HR
          have k1 := row2_cells HR1.out.rp
          have cj := HR1.out.pl j hjp
          rw [hpj] at cj
          go_wp2_with fail
          refine (roomI q 0 l n c R0 HRM.out HL.out (by omega) _ HR1.out.op.rd).mono ?_
          rintro e v2 ⟨rfl, hbc⟩
          have HR2 : Hid (RG w1 v2 gp ps P q n c l 0 go no co R) := HR1.out.on hbc
          have k2 := row2_cells HR2.out.rp
          clear hbc HR1 k1 cj
          go_wp2_with fail
          refine (passI q 0 l n c v true Y m HYp.out HM.out HL.out (by omega) HNN.out ⟨fun _ => HG.out, fun _ => rfl⟩ _ HR2.out.op.rd).mono ?_
          rintro e v3 ⟨g8, c8, rfl, hown8, hbc⟩
          have HR3 : Hid (RG w1 v3 gp ps P q n c l 0 go no co R) := HR2.out.on hbc
          have hg8 : v2.heap.size ≤ g8 := hown8.ge
          have hPv := row_lt HR2.out.rp
          have hGv := HR2.out.oR.lt
          have HO8 : Hid (OwnN v3 w1.heap.size g8 m c8 Y) := hown8.mono HR2.out.bel.size
          clear hown8 hbc HR2 k2
          go_wp2_with (refine listStoreG rfl rfl _ _ _ rfl rfl P (some ⟨g8, 0, none⟩) m c8 0 rfl rfl HR3.out.rp ?_)
          intro v4 hput
          have HR4 : Hid (RG w1 v4 gp ps P (some ⟨g8, 0, none⟩) m c8 Y 0 go no co R) := HR3.out.put hgpP hput (.inr ⟨g8, rfl, HO8.out⟩) (fun g e => by cases e; exact ⟨by omega, by omega⟩)
          clear hput HR3 HO8 hg8 hPv hGv
          have HRa : Hid (RG w1 (v4.alloc (.cells #[.int .i64 v] 3)) gp ps P (some ⟨g8, 0, none⟩) m c8 Y 0 go no co R) := HR4.out.on (alG _ _)
          have hno : no ≤ 21 := by have := HNo.out; omega
          go_wp2_with (refine listN rfl (.tmp 63) (.tmp 65) rfl w1.heap.size go no co R (some ⟨v4.heap.size, 0, none⟩) 1 1 [v] rfl rfl HRa.out.oR rfl (fun e => by cases e) (rd_one v4 v) (by omega) (Nat.le_trans HR4.out.bel.size (alG _ _).size) ?_)
          intro g2 c2 v5 hown2 hgr2 hat2
          have HR5 : Hid (RG w1 v5 gp ps P (some ⟨g8, 0, none⟩) m c8 Y 0 g2 (no + 1) c2 (R ++ [v])) := HRa.out.app (by have := HPS.out; omega) hown2 hgr2 (by simpa using hat2)
          clear hown2 hgr2 hat2 HRa HR4
          have k5 := row2_cells HR5.out.rp
          go_wp2_with fail
          refine (guardokI (some ⟨g8, 0, none⟩) 0 Y m c8 true HM.out (by have := HGY.out.1; have := HM.out; omega) ⟨fun _ => HGY.out, fun _ => rfl⟩ _ HR5.out.op.rd).mono ?_
          rintro e v6 ⟨rfl, hbc⟩
          have HR6 : Hid (RG w1 v6 gp ps P (some ⟨g8, 0, none⟩) m c8 Y 0 g2 (no + 1) c2 (R ++ [v])) := HR5.out.on hbc
          have k6 := row2_cells HR6.out.rp
          obtain ⟨gz, oz, ez, cz⟩ := HR6.out.op.rd (by have := HM.out; omega)
          have c0 := cz 0 (by have := HM.out; omega)
          rw [hY0] at c0
          cases ez
          have HNo2 : Hid (no + 1 ≤ 9 + (j + 1)) := by have := HNo.out; show _ ≤ _; omega
          clear hbc HR5 k5 cz hY0
          go_wp2
          go_roundg (gk - 1)
          case measure => omega
          case rel => exact ⟨j + 1, some ⟨g8, 0, none⟩, m, c8, Y, R ++ [v], g2, no + 1, c2, by omega, by go_num, rfl, HGY, HPY, HNo2, HR6⟩
        · obtain rfl : j = 12 := by omega
          have hno : no ≤ 21 := by have := HNo.out; omega
          have HLR : Hid (R.length = no) := HR.out.oR.len
          have HRR : Hid (Rd wr (some ⟨go, 0, none⟩) R) := HR.out.oR.rd
          clear hlt hj
          go_wp2
          go_loopg [9] no (fun gk i W => ∃ k : Nat, k + gk = no ∧ i = .int .i64 k ∧ W = wr)
          case atStart => exact ⟨0, by omega, rfl, rfl⟩
          case round =>
            obtain ⟨k, hk, rfl, rfl⟩ := hrel
            obtain ⟨gk0, hgk0⟩ : ∃ gk0, gk0 = gk := ⟨_, rfl⟩
            subst hgk0
            by_cases hkn : k < no
            · have hkn' : (k : Int) < no := by omega
              have u1 : IntKind.i64.wrap ((k : Int) + 1) = (k : Int) + 1 := wrap_in (by omega) (by omega)
              obtain ⟨K10, hK10⟩ : ∃ K10, (k : Int) + 10 = K10 := ⟨_, rfl⟩
              have u2 : IntKind.i64.wrap ((k : Int) + 10) = K10 := by rw [hK10]; exact wrap_in (by omega) (by omega)
              have HK10 : Hid ((k : Int) + 10 = K10) := hK10
              clear hK10
              go_wp2
              go_loopg [10, 11] 10 (fun gk2 s i2 W => ∃ (m km : Nat) (S : Int), m + gk2 = 10 ∧ i2 = .int .i64 km ∧ s = .int .i64 S ∧ Hid (km = k + m) ∧ Hid (S = sumN ((R.drop k).take m)) ∧ km ≤ no ∧ W = wr)
              case atStart => exact ⟨0, k, 0, by omega, rfl, rfl, by show k = k + 0; omega, by show (0 : Int) = _; simp [sumN], by omega, rfl⟩
              case round =>
                obtain ⟨m, km, S, hm, rfl, rfl, HKM, HS, hkm, rfl⟩ := hrel
                by_cases h1 : km < no
                · have h1' : (km : Int) < no := by omega
                  by_cases h2 : m < 10
                  · have h2' : (km : Int) < K10 := by have := HKM.out; have := HK10.out; omega
                    have hkr : km < R.length := by have := HLR.out; omega
                    obtain ⟨gz, oz, ez, cz⟩ := HRR.out (by omega)
                    cases ez
                    have c0 := cz km hkr
                    obtain ⟨x, hx⟩ : ∃ x, R[km] = x := ⟨_, rfl⟩
                    rw [hx, Nat.zero_add] at c0
                    clear cz
                    have hb1 := win_small HPa.out.all k m (by omega)
                    have hb2 := win_small HPa.out.all k (m + 1) (by omega)
                    have hnx : sumN ((R.drop k).take (m + 1)) = sumN ((R.drop k).take m) + x := by
                      have h := win_next (R := R) (i := k) (m := m) (by have := HKM.out; have := HLR.out; omega)
                      rw [h, ← hx]
                      congr 1
                      congr 1
                      exact HKM.out.symm
                    rw [hnx, ← HS.out] at hb2
                    obtain ⟨S2, hS2⟩ : ∃ S2, S + x = S2 := ⟨_, rfl⟩
                    have u3 : IntKind.i64.wrap (S + x) = S2 := by rw [hS2]; exact wrap_in (by omega) (by omega)
                    have u4 : IntKind.i64.wrap ((km : Int) + 1) = (km : Int) + 1 := wrap_in (by omega) (by omega)
                    have HS2 : Hid (S2 = sumN ((R.drop k).take (m + 1))) := by show _ = _; rw [hnx, ← HS.out]; exact hS2.symm
                    have HKM2 : Hid (km + 1 = k + (m + 1)) := by have := HKM.out; show _ = _; omega
                    clear hx hb1 hb2 hnx hS2
                    go_wp2
                    go_roundg (gk - 1)
                    case measure => omega
                    case rel => exact ⟨m + 1, km + 1, S2, by omega, by go_num, rfl, HKM2, HS2, by omega, rfl⟩
                  · obtain rfl : m = 10 := by omega
                    have h2' : ¬ (km : Int) < K10 := by have := HKM.out; have := HK10.out; omega
                    have hS : ¬ 30 < S := by have h := win_all (i := k) (m := 10) HPa.out.win (Or.inl rfl) (by omega); rw [← HS.out] at h; omega
                    go_wp2
                    go_roundg (gk0 - 1)
                    case measure => omega
                    case rel => exact ⟨k + 1, by omega, by go_num, rfl⟩
                · have h1' : ¬ (km : Int) < no := by omega
                  have hS : ¬ 30 < S := by have h := win_all (i := k) (m := m) HPa.out.win (Or.inr (by have := HKM.out; have := HLR.out; omega)) (by omega); rw [← HS.out] at h; omega
                  go_wp2
                  go_roundg (gk0 - 1)
                  case measure => omega
                  case rel => exact ⟨k + 1, by omega, by go_num, rfl⟩
            · obtain rfl : k = no := by omega
              have hkn' : ¬ (k : Int) < k := by omega
              obtain ⟨R0, hR0⟩ : ∃ R0, 30 - sumN l = R0 := ⟨_, rfl⟩
              have hrb := room_bd HG.out
              rw [hR0] at hrb
              have HRM : Hid (IntKind.i64.wrap (30 - sumW l) = R0) := hrb.1
              have HZ : Hid ((if true = true ∧ (0 : Int) = 0 then letG l (-1) else 0) = 0) := by
                show _ = _
                rw [if_pos ⟨rfl, rfl⟩]
                show max (min (-1) (30 - sumN l)) 0 = 0
                rw [hR0]
                omega
              clear hR0 hrb
              have HRd : Hid (RG w1 wr.drew gp ps P q n c l 0 go k co R) := HR.out.drew
              go_upto_region 31 with fail
              refine wp_region_held_drew (S := fun w' => RG w1 w' gp ps P q n c l 0 go k co R) (by kernel_rfl) HRd.out (fun hHeld => ?_)
              refine wpAnyH_take (i := 0) (v := ?_) rfl (by kernel_rfl) (by kernel_rfl) (by kernel_rfl) (fun _ _ _ h => h) (Or.inl ⟨by rfl, ?_⟩) (by assumption) ?_
              rotate_left
              · intro w_ hSw; (try dsimp only at hSw); have qa_ := row2_cells hSw.rp; go_simp <;> with_reducible rfl
              try simp only [Act.put, List.setIfInBounds_toArray, List.set_cons_zero, List.set_cons_succ, List.getElem_toArray, List.getElem_cons_zero, List.getElem_cons_succ]
              refine wpAnyH_ready (rs := [1]) (by kernel_rfl) (by simp) ?_
              refine AllReadyH.cons rfl (fun J hJ => ?_) AllReadyH.nil
              go_simp
              go_at_call 13
              refine (allowI q 0 l n c (-1) true 0 HL.out (by omega) ⟨fun _ => HG.out, fun _ => rfl⟩ HZ.out _ HRd.out.op.rd).mono ?_
              rintro e v1 ⟨rfl, hbc⟩
              have HR1 : Hid (RG w1 v1 gp ps P q n c l 0 go k co R) := HRd.out.on hbc
              go_wp2_with fail
              refine hJ.out _ _ HR1.out (fun hHeld1 => ?_)
              clear hJ J hbc
              try simp only [Act.put, List.setIfInBounds_toArray, List.set_cons_zero, List.set_cons_succ, List.getElem_toArray, List.getElem_cons_zero, List.getElem_cons_succ]
              refine wpAnyH_take (i := 2) (v := ?_) rfl (by kernel_rfl) (by kernel_rfl) (by kernel_rfl) (fun _ _ _ h => h) (Or.inl ⟨by rfl, ?_⟩) (by assumption) ?_
              rotate_left
              · intro w_ hSw; (try dsimp only at hSw); go_simp <;> with_reducible rfl
              try simp only [Act.put, List.setIfInBounds_toArray, List.set_cons_zero, List.set_cons_succ, List.getElem_toArray, List.getElem_cons_zero, List.getElem_cons_succ]
              refine wpAnyH_take (i := 3) (v := ?_) rfl (by kernel_rfl) (by kernel_rfl) (by kernel_rfl) (fun _ _ _ h => h) (Or.inl ⟨by rfl, ?_⟩) (by assumption) ?_
              rotate_left
              · intro w_ hSw; (try dsimp only at hSw); go_simp <;> with_reducible rfl
              try simp only [Act.put, List.setIfInBounds_toArray, List.set_cons_zero, List.set_cons_succ, List.getElem_toArray, List.getElem_cons_zero, List.getElem_cons_succ]
              refine wpAnyH_take (i := 4) (v := ?_) rfl (by kernel_rfl) (by kernel_rfl) (by kernel_rfl) (fun _ _ _ h => h) (Or.inl ⟨by rfl, ?_⟩) (by assumption) ?_
              rotate_left
              · intro w_ hSw; (try dsimp only at hSw); have qa_ := row2_cells hSw.rp; go_simp <;> with_reducible rfl
              try simp only [Act.put, List.setIfInBounds_toArray, List.set_cons_zero, List.set_cons_succ, List.getElem_toArray, List.getElem_cons_zero, List.getElem_cons_succ]
              refine wpAnyH_take (i := 6) (v := ?_) rfl (by kernel_rfl) (by kernel_rfl) (by kernel_rfl) (fun _ _ _ h => h) (Or.inl ⟨by rfl, ?_⟩) (by assumption) ?_
              rotate_left
              · intro w_ hSw; (try dsimp only at hSw); have qa_ := row2_cells hSw.rp; go_simp <;> with_reducible rfl
              try simp only [Act.put, List.setIfInBounds_toArray, List.set_cons_zero, List.set_cons_succ, List.getElem_toArray, List.getElem_cons_zero, List.getElem_cons_succ]
              refine wpAnyH_ready (rs := [5]) (by kernel_rfl) (by simp) ?_
              refine AllReadyH.cons rfl (fun J hJ => ?_) AllReadyH.nil
              go_simp
              go_at_call 14
              refine (roomI q 0 l n c R0 HRM.out HL.out (by omega) _ HR1.out.op.rd).mono ?_
              rintro e v5 ⟨rfl, hbc⟩
              have HR5 : Hid (RG w1 v5 gp ps P q n c l 0 go k co R) := HR1.out.on hbc
              go_wp2_with fail
              refine hJ.out _ _ HR5.out (fun hHeld5 => ?_)
              clear hJ J hbc
              try simp only [Act.put, List.setIfInBounds_toArray, List.set_cons_zero, List.set_cons_succ, List.getElem_toArray, List.getElem_cons_zero, List.getElem_cons_succ]
              refine wpAnyH_ready (rs := [7]) (by kernel_rfl) (by simp) ?_
              refine AllReadyH.cons rfl (fun J hJ => ?_) AllReadyH.nil
              go_simp
              go_at_call 17
              refine (roomS q 0 l n c R0 HRM.out HL.out (by omega) _ HR5.out.op.rd).mono ?_
              rintro e v7 ⟨rfl, hbc⟩
              have HR7 : Hid (RG w1 v7 gp ps P q n c l 0 go k co R) := HR5.out.on hbc
              go_wp2_with fail
              refine hJ.out _ _ HR7.out (fun hHeld7 => ?_)
              clear hJ J hbc
              try simp only [Act.put, List.setIfInBounds_toArray, List.set_cons_zero, List.set_cons_succ, List.getElem_toArray, List.getElem_cons_zero, List.getElem_cons_succ]
              refine wpAnyH_take (i := 8) (v := ?_) rfl (by kernel_rfl) (by kernel_rfl) (by kernel_rfl) (fun _ _ _ h => h) (Or.inl ⟨by rfl, ?_⟩) (by assumption) ?_
              rotate_left
              · intro w_ hSw; (try dsimp only at hSw); go_simp <;> with_reducible rfl
              try simp only [Act.put, List.setIfInBounds_toArray, List.set_cons_zero, List.set_cons_succ, List.getElem_toArray, List.getElem_cons_zero, List.getElem_cons_succ]
              refine wpAnyH_take (i := 9) (v := ?_) rfl (by kernel_rfl) (by kernel_rfl) (by kernel_rfl) (fun _ _ _ h => h) (Or.inl ⟨by rfl, ?_⟩) (by assumption) ?_
              rotate_left
              · intro w_ hSw; (try dsimp only at hSw); go_simp <;> with_reducible rfl
              try simp only [Act.put, List.setIfInBounds_toArray, List.set_cons_zero, List.set_cons_succ, List.getElem_toArray, List.getElem_cons_zero, List.getElem_cons_succ]
              refine wpAnyH_take (i := 10) (v := ?_) rfl (by kernel_rfl) (by kernel_rfl) (by kernel_rfl) (fun _ _ _ h => h) (Or.inl ⟨by rfl, ?_⟩) (by assumption) ?_
              rotate_left
              · intro w_ hSw; (try dsimp only at hSw); go_simp <;> with_reducible rfl
              try simp only [Act.put, List.setIfInBounds_toArray, List.set_cons_zero, List.set_cons_succ, List.getElem_toArray, List.getElem_cons_zero, List.getElem_cons_succ]
              refine wpAnyH_done (by kernel_rfl) ?_ _
              go_wp2
              go_ret
              exact ⟨by simp, HR7.out.bel⟩
    | succ j =>
      obtain rfl : I = (j : Int) := by have := HI.out; omega
      have hjl : j < l.length := by have := HL.out; omega
      obtain ⟨gq, off, hqe, hcq⟩ := HR.out.op.rd (by omega)
      have hq0 := hqe
      subst hqe
      obtain ⟨x, hx⟩ : ∃ x, l[j] = x := ⟨_, rfl⟩
      have c1 := hcq j hjl
      rw [hx] at c1
      clear hcq
      have hjn : (j : Int) < n := by omega
      have HRa : Hid (RG w1 (wr.alloc (.cells #[.int .i64 x] 3)) gp ps P (some ⟨gq, off, none⟩) n c l 0 go no co (l.drop (j + 1)).reverse) := HR.out.on (alG _ _)
      have u1 : IntKind.i64.wrap ((j : Int) - 1) = (j : Int) - 1 := wrap_in (by omega) (by omega)
      have HX : Hid ((l.drop (j + 1)).reverse ++ [x] = (l.drop j).reverse) := by show _ = _; rw [← hx]; exact rev_next hjl
      have hno : no ≤ 9 := by have := HNO.out; omega
      go_wp2_with (refine listN rfl (.tmp 28) (.tmp 34) rfl w1.heap.size go no co (l.drop (j + 1)).reverse (some ⟨wr.heap.size, 0, none⟩) 1 1 [x] rfl rfl HRa.out.oR rfl (fun e => by cases e) (rd_one wr x) (by omega) (Nat.le_trans HR.out.bel.size (alG _ _).size) ?_)
      intro g2 c2 w6 hown2 hgr2 hat2
      have HR2 : Hid (RG w1 w6 gp ps P (some ⟨gq, off, none⟩) n c l 0 g2 (no + 1) c2 (l.drop j).reverse) := HRa.out.app (by have := HPS.out; omega) (by rw [← HX.out]; exact hown2) hgr2 (by simpa using hat2)
      have HNO2 : Hid (no + 1 = n - j) := by have := HNO.out; show no + 1 = n - j; omega
      clear hown2 hgr2 hat2 HRa HR HX hx c1 kr HNO
      go_wp2
      go_roundg j
      case measure => omega
      case rel => exact ⟨(j : Int) - 1, g2, no + 1, c2, by omega, rfl, rfl, rfl, HNO2, HR2⟩
end Go.Proofs.Ytgpdkodnggpkeaa
