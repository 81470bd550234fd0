/-
  The walk of FnExactApart.
-/
import Derived.Test.YtfdhcchakoldpaaApS
import Derived.Test.YtfdhcchakoldpaaKerSm
import Derived.Test.YtfdhcchakoldpaaKerT
import Derived.Test.YtfdhcchakoldpaaKerE
import Derived.Test.YtfdhcchakoldpaaKPvW
import Derived.Deep.DeepCutAuto
namespace Go.Proofs.Ytfdhcchakoldpaa.fnExactApart
open Go.ChangeShapes Go.WideShapes Go.ChangeAt Go.RowKit Go.PlainAid Ap
set_option linter.unusedVariables false
set_option linter.unusedSimpArgs false

theorem wf64 {p : Int} (h : (Lit.int .i64 p).wf = true) : -9223372036854775808 ≤ p ∧ p ≤ 9223372036854775807 := by
  simp only [Lit.wf, Bool.and_eq_true, decide_eq_true_eq] at h
  exact h
theorem ker_row2 (k : KH) (K : KX) : ∃ cs, KerV k K = .agg cs ∧ cs.size = 12 ∧ cs.all (·.oneCell') = true := ⟨_, rfl, rfl, by simp [Value.oneCell']⟩
/-- a kernel stored into its own row -/
theorem listStoreK {ops : Array Oper} {rest : List Oper} {o : Oper} {a : Act} {Q : Exit → Act → World → Prop} {w : World} (hgd : o.guard = none) (hd : o.dst = none) (x y : Operand) (ty : TypeId) (ho : o.op = .store ty x y) (hty : ty = 38)
    (g : Nat) (vs : Array Value) (hx : a.eval x = .pointer (some ⟨g, 0, none⟩)) (hy : a.eval y = .agg vs) (hv : vs.size = 12) (h1 : vs.all (·.oneCell') = true)
    {cs : Array Value} (hg : w.heap[g]? = some (.cells cs 38)) (hs : cs.size = 12)
    (h : ∀ w' : World, PutM w w' g (.cells vs 38) → wpList Try.prog ops Q rest a w') : wpList Try.prog ops Q (o :: rest) a w := by
  subst hty
  refine wpList_store_rowTo hgd _ x y ho hd g _ hx hy _ _ hg (by rw [hv]; kernel_rfl) (by rw [hs, hv]) h1 ?_
  exact h _ (putM_row hg)
structure LA (w W : World) (cs cs' : Array Value) : Prop where
  x : W.heap[w.heap.size]? = some (.cells cs 86)
  y : W.heap[w.heap.size + 1]? = some (.cells cs' 86)
  b : Below w.heap.size w W
theorem LA.on {w W W' : World} {cs cs' : Array Value} (h : LA w W cs cs') (hb : Below W.heap.size W W') : LA w W' cs cs' := ⟨row_on h.x hb, row_on h.y hb, bel_on (Nat.le_refl _) h.b hb⟩
theorem LA.put {w W W' : World} {cs cs' : Array Value} {g : Nat} {o : Obj} (h : LA w W cs cs') (hp : PutM W W' g o) (hg : w.heap.size + 2 ≤ g) : LA w W' cs cs' := ⟨hp.far h.x (by omega), hp.far h.y (by omega), hp.2.2.2 _ _ (by omega) h.b⟩
theorem LA.gt {w W : World} {cs cs' : Array Value} (h : LA w W cs cs') : w.heap.size + 2 ≤ W.heap.size := row_lt h.y
structure LB (w W : World) (cs cs' : Array Value) (P : Nat) (c1 : Array Value) (k1 : KH) (K : KX) : Prop where
  l : LA w W cs cs'
  p : W.heap[P]? = some (.cells c1 38)
  r : RdK W k1 K
theorem LB.on {w W W' : World} {cs cs' : Array Value} {P : Nat} {c1 : Array Value} {k1 : KH} {K : KX} (h : LB w W cs cs' P c1 k1 K) (hb : Below W.heap.size W W') : LB w W' cs cs' P c1 k1 K := ⟨h.l.on hb, row_on h.p hb, h.r.on hb⟩
theorem RdK.put {W W' : World} {k : KH} {K : KX} {g : Nat} {o : Obj} {w0 : World} (h : RdK w0 k K) (hb : Below w0.heap.size w0 W) (hp : PutM W W' g o) (hg : w0.heap.size ≤ g) : RdK W' k K := h.keep (hp.2.2.2 _ _ hg hb) (Nat.le_refl _)
def SAa (w : World) (cs cs' : Array Value) (W : World) : Prop := LA w W cs cs'
def SAb (w : World) (cs cs' : Array Value) (P : Nat) (c1 : Array Value) (k1 : KH) (K : KX) (P' : Nat) (c1' : Array Value) (k1' : KH) (K' : KX) (W : World) : Prop := LB w W cs cs' P c1 k1 K ∧ LB w W cs cs' P' c1' k1' K'
set_option maxRecDepth 100000 in
set_option maxHeartbeats 16000000 in
theorem walk (k : KH) (K : KX) (k' : KH) (K' : KX) (p : Int) (w : World) (h : IsKer w k K) (h' : IsKer w k' K') (wp : (Lit.int .i64 p).wf = true) :
    Calls Try.prog 6 #[KerV k K, KerV k' K', .int .i64 p] w fun e w' => e = .returned (.bool true) ∧ Below w.heap.size w w' := by
  have HP : Hid (-9223372036854775808 ≤ p ∧ p ≤ 9223372036854775807) := wf64 wp
  have HX : Hid (RdK w k K) := h.rd
  have HX' : Hid (RdK w k' K') := h'.rd
  obtain ⟨cs, hcs, hsz, _⟩ := ker_row2 k K
  obtain ⟨cs', hcs', hsz', _⟩ := ker_row2 k' K'
  have SZ : Hid (∀ W (M : Int), 0 ≤ M → M ≤ 1048576 → RdK W k K → Calls Try.prog 23 #[.agg cs, .int .i64 M] W fun e w' => ∃ r : Int, e = .returned (.int .i64 r) ∧ (r = -1 ∨ (0 ≤ r ∧ r ≤ 1048576 ∧ SmK k K)) ∧ Below W.heap.size W w') := (fun W M m0 m1 hr => by have := szKm k K M m0 m1 W hr h.lim; rwa [hcs] at this)
  have SZ' : Hid (∀ W (M : Int), 0 ≤ M → M ≤ 1048576 → RdK W k' K' → Calls Try.prog 23 #[.agg cs', .int .i64 M] W fun e w' => ∃ r : Int, e = .returned (.int .i64 r) ∧ (r = -1 ∨ (0 ≤ r ∧ r ≤ 1048576 ∧ SmK k' K')) ∧ Below W.heap.size W w') := (fun W M m0 m1 hr => by have := szKm k' K' M m0 m1 W hr h'.lim; rwa [hcs'] at this)
  have TK0 : Hid (SmK k K → ∀ W, RdK W k K → Calls Try.prog 24 #[.agg cs] W fun e w' => ∃ k1 c1, e = .returned (.agg c1) ∧ KerV k1 K = .agg c1 ∧ c1.size = 12 ∧ c1.all (·.oneCell') = true ∧ OwnK w' W.heap.size k1 K ∧ SmK k1 K ∧ Below W.heap.size W w') := (fun hs W hr => by
    have := toK k K W hr hs
    rw [hcs] at this
    refine this.mono ?_
    rintro e w' ⟨k1, rfl, ho, hb⟩
    obtain ⟨c1, hc1, hz1, ho1⟩ := ker_row2 k1 K
    exact ⟨k1, c1, by rw [hc1], hc1, hz1, ho1, ho, sm_ofK hs hr ho.rd, hb⟩)
  have TK0' : Hid (SmK k' K' → ∀ W, RdK W k' K' → Calls Try.prog 24 #[.agg cs'] W fun e w' => ∃ k1 c1, e = .returned (.agg c1) ∧ KerV k1 K' = .agg c1 ∧ c1.size = 12 ∧ c1.all (·.oneCell') = true ∧ OwnK w' W.heap.size k1 K' ∧ SmK k1 K' ∧ Below W.heap.size W w') := (fun hs W hr => by
    have := toK k' K' W hr hs
    rw [hcs'] at this
    refine this.mono ?_
    rintro e w' ⟨k1, rfl, ho, hb⟩
    obtain ⟨c1, hc1, hz1, ho1⟩ := ker_row2 k1 K'
    exact ⟨k1, c1, by rw [hc1], hc1, hz1, ho1, ho, sm_ofK hs hr ho.rd, hb⟩)
  rw [hcs, hcs']
  obtain ⟨W0, hW0⟩ : ∃ W0, ((w.alloc (.cells cs 86)).alloc (.cells cs' 86)) = W0 := ⟨_, rfl⟩
  have HA : Hid (LA w W0 cs cs') := by
    show LA w W0 cs cs'
    rw [← hW0]
    refine ⟨(Below.heap_alloc _ _ _ (row_lt (heap_new w _))).trans (heap_new w _), ?_, ((Below.refl _ _).alloc (Nat.le_refl _) _).alloc (by simp) _⟩
    have := heap_new (w.alloc (.cells cs 86)) (.cells cs' 86)
    rwa [World.size_alloc] at this
  clear h h' hcs hcs' wp
  go_enter Try.func6, Try.ntmps6
  go_upto_region 2 with fail
  (try rw [hW0])
  clear hW0
  go_wp2_with (refine wpList_load_row rfl _ _ rfl w.heap.size rfl _ _ _ _ HA.out.x Try.underlying86 rfl (by rw [hsz]; kernel_rfl) ?_)
  refine (SZ.out _ 1048576 (by omega) (by omega) (HX.out.keep HA.out.b (Nat.le_refl _))).mono ?_
  rintro e w1 ⟨r, rfl, hr, hb1⟩
  have HA1 : Hid (LA w w1 cs cs') := HA.out.on hb1
  clear hb1 SZ HA
  rcases hr with rfl | ⟨hr0, hr1, hs⟩
  · have HB1 : Hid (Below w.heap.size w w1) := HA1.out.b
    go_wp2
    go_ret
    exact ⟨rfl, HB1.out⟩
  have g1 : ¬ r < 0 := by omega
  have HS : Hid (SmK k K) := hs
  have TK : Hid (∀ W, RdK W k K → Calls Try.prog 24 #[.agg cs] W fun e w' => ∃ k1 c1, e = .returned (.agg c1) ∧ KerV k1 K = .agg c1 ∧ c1.size = 12 ∧ c1.all (·.oneCell') = true ∧ OwnK w' W.heap.size k1 K ∧ SmK k1 K ∧ Below W.heap.size W w') := TK0.out hs
  clear hs TK0
  go_wp2_with (refine wpList_load_row rfl _ _ rfl (w.heap.size + 1) rfl _ _ _ _ HA1.out.y Try.underlying86 rfl (by rw [hsz']; kernel_rfl) ?_)
  refine (SZ'.out _ r hr0 hr1 (HX'.out.keep HA1.out.b (Nat.le_refl _))).mono ?_
  rintro e w2 ⟨r2, rfl, hr2, hb2⟩
  have HA2 : Hid (LA w w2 cs cs') := HA1.out.on hb2
  clear hb2 SZ' HA1 hr0 hr1 g1
  rcases hr2 with rfl | ⟨hr0, hr1, hs⟩
  · have HB1 : Hid (Below w.heap.size w w2) := HA2.out.b
    go_wp2
    go_ret
    exact ⟨rfl, HB1.out⟩
  have g1 : ¬ r2 < 0 := by omega
  have HS' : Hid (SmK k' K') := hs
  have TK' : Hid (∀ W, RdK W k' K' → Calls Try.prog 24 #[.agg cs'] W fun e w' => ∃ k1 c1, e = .returned (.agg c1) ∧ KerV k1 K' = .agg c1 ∧ c1.size = 12 ∧ c1.all (·.oneCell') = true ∧ OwnK w' W.heap.size k1 K' ∧ SmK k1 K' ∧ Below W.heap.size W w') := TK0'.out hs
  obtain ⟨R, hR⟩ := bool_ex (SameV K K' p)
  have HR : Hid (R = true ↔ SameV K K' p) := hR
  clear hs TK0' hR hr0 hr1
  go_upto_region 8 with fail
  clear g1
  have HK : SAa w cs cs' w2.drew := HA2.out.on ((Below.refl _ _).drew)
  go_cut [8] (fun v8 wd => v8 = .bool R ∧ Hid (LA w wd cs cs'))
  case first =>
    refine wp_region_held_drew (S := fun w' => SAa w cs cs' w') (by kernel_rfl) HK (fun hHeld => ?_)
    have HKa : Hid (LA w w2.drew cs cs') := HK
    clear HA2 HK
    refine wpAnyH_take (i := 0) (v := .agg cs) rfl (by kernel_rfl) (by kernel_rfl) (by kernel_rfl) (fun _ _ _ h => h) (Or.inl ⟨by rfl, fun w_ hSw => exec_load_row _ _ rfl w.heap.size rfl _ _ _ hSw.x (by kernel_rfl) (by rw [hsz]; kernel_rfl)⟩) (by assumption) ?_
    try simp only [Act.put, List.setIfInBounds_toArray, List.set_cons_zero, List.set_cons_succ, List.getElem_toArray, List.getElem_cons_zero, List.getElem_cons_succ]
    refine wpAnyH_take (i := 2) (v := .agg cs') rfl (by kernel_rfl) (by kernel_rfl) (by kernel_rfl) (fun _ _ _ h => h) (Or.inl ⟨by rfl, fun w_ hSw => exec_load_row _ _ rfl (w.heap.size + 1) rfl _ _ _ hSw.y (by kernel_rfl) (by rw [hsz']; kernel_rfl)⟩) (by assumption) ?_
    try simp only [Act.put, List.setIfInBounds_toArray, List.set_cons_zero, List.set_cons_succ, List.getElem_toArray, List.getElem_cons_zero, List.getElem_cons_succ]
    refine wpAnyH_take (i := 4) (v := ?_) rfl (by kernel_rfl) (by kernel_rfl) (by kernel_rfl) (fun _ _ _ h => h) (Or.inl ⟨by rfl, ?_⟩) (by assumption) ?_
    rotate_left
    · intro w_ hSw; (try dsimp only at hSw); clear hSw; (try clear hHeld); go_simp <;> with_reducible rfl
    try simp only [Act.put, List.setIfInBounds_toArray, List.set_cons_zero, List.set_cons_succ, List.getElem_toArray, List.getElem_cons_zero, List.getElem_cons_succ]
    refine wpAnyH_ready (rs := [1]) (by kernel_rfl) (by simp) ?_
    refine AllReadyH.cons rfl (fun J hJ => ?_) AllReadyH.nil
    go_simp
    refine (TK.out _ (HX.out.keep HKa.out.b (Nat.le_refl _))).mono ?_
    rintro e w3 ⟨k1, c1, rfl, e1, z1, _, o1, s1, hb3⟩
    have HA3 : Hid (LA w w3 cs cs') := HKa.out.on hb3
    have O1 : Hid (OwnK w3 _ k1 K) := o1
    clear hb3 HKa o1
    (try go_wp2_with fail)
    refine hJ.out _ _ HA3.out (fun hHeld2 => ?_)
    clear hJ J hHeld
    try simp only [Act.put, List.setIfInBounds_toArray, List.set_cons_zero, List.set_cons_succ, List.getElem_toArray, List.getElem_cons_zero, List.getElem_cons_succ]
    refine wpAnyH_ready (rs := [3]) (by kernel_rfl) (by simp) ?_
    refine AllReadyH.cons rfl (fun J hJ => ?_) AllReadyH.nil
    go_simp
    refine (TK'.out _ (HX'.out.keep HA3.out.b (Nat.le_refl _))).mono ?_
    rintro e w4 ⟨k2, c2, rfl, e2, z2, _, o2, s2, hb4⟩
    have HA4 : Hid (LA w w4 cs cs') := HA3.out.on hb4
    have O1b : Hid (OwnK w4 _ k1 K) := O1.out.on hb4
    have O2 : Hid (OwnK w4 _ k2 K') := o2
    clear hb4 HA3 o2 O1
    (try go_wp2_with fail)
    refine hJ.out _ _ HA4.out (fun hHeld3 => ?_)
    clear hJ J hHeld2
    try simp only [Act.put, List.setIfInBounds_toArray, List.set_cons_zero, List.set_cons_succ, List.getElem_toArray, List.getElem_cons_zero, List.getElem_cons_succ]
    refine wpAnyH_ready (rs := [5]) (by kernel_rfl) (by simp) ?_
    refine AllReadyH.cons rfl (fun J hJ => ?_) AllReadyH.nil
    go_simp
    have CS := apartS k1 k2 K K' p HP.out R HR.out _ _ w4 O1b.out O2.out s1 s2
    rw [e1, e2] at CS
    refine CS.mono ?_
    rintro e w5 ⟨rfl, hb5⟩
    have HA5 : Hid (LA w w5 cs cs') := HA4.out.on hb5
    clear hb5 HA4 O1b O2 CS e1 e2 s1 s2
    (try go_wp2_with fail)
    refine hJ.out _ _ HA5.out (fun hHeld4 => ?_)
    clear hJ J hHeld3
    try simp only [Act.put, List.setIfInBounds_toArray, List.set_cons_zero, List.set_cons_succ, List.getElem_toArray, List.getElem_cons_zero, List.getElem_cons_succ]
    refine wpAnyH_take (i := 6) (v := ?_) rfl (by kernel_rfl) (by kernel_rfl) (by kernel_rfl) (fun _ _ _ h => h) (Or.inl ⟨by rfl, ?_⟩) (by assumption) ?_
    rotate_left
    · intro w_ hSw; (try dsimp only at hSw); clear hSw; (try clear hHeld4); go_simp <;> with_reducible rfl
    try simp only [Act.put, List.setIfInBounds_toArray, List.set_cons_zero, List.set_cons_succ, List.getElem_toArray, List.getElem_cons_zero, List.getElem_cons_succ]
    clear hHeld4
    refine wpAnyH_done (by kernel_rfl) ?_ _
    (try go_wp2_with fail)
    go_meet
    exact ⟨rfl, HA5⟩
  case rest =>
    obtain ⟨rfl, HB⟩ := hcut
    clear HA2 HK
    obtain ⟨w6, hw6⟩ : ∃ w6, wc = w6 := ⟨_, rfl⟩
    rw [hw6] at HB ⊢
    clear hw6
    go_wp2_with (refine wpList_load_row rfl _ _ rfl w.heap.size rfl _ _ _ _ HB.out.x Try.underlying86 rfl (by rw [hsz]; kernel_rfl) ?_)
    refine (TK.out _ (HX.out.keep HB.out.b (Nat.le_refl _))).mono ?_
    rintro e w7 ⟨k1, c1, rfl, e1, z1, u1, o1, s1, hb7⟩
    have HA7 : Hid (LA w w7 cs cs') := HB.out.on hb7
    have O1 : Hid (OwnK w7 w6.heap.size k1 K) := o1
    clear hb7 HB o1
    obtain ⟨P, hP⟩ : ∃ P, w7.heap.size = P := ⟨_, rfl⟩
    have hPg : w.heap.size + 2 ≤ P := by rw [← hP]; exact HA7.out.gt
    have HNEW : Hid ((w7.alloc (.cells #[.slice none 0 0, .slice none 0 0, .slice none 0 0, .slice none 0 0, .slice none 0 0, .slice none 0 0, .slice none 0 0, .slice none 0 0, .slice none 0 0, .int .i64 0, .bool false, .slice none 0 0] 38)).heap[P]? = some (.cells #[.slice none 0 0, .slice none 0 0, .slice none 0 0, .slice none 0 0, .slice none 0 0, .slice none 0 0, .slice none 0 0, .slice none 0 0, .slice none 0 0, .int .i64 0, .bool false, .slice none 0 0] 38)) := by rw [← hP]; exact heap_new w7 _
    go_wp2_with (refine listStoreK rfl rfl _ _ _ rfl rfl P c1 rfl rfl z1 u1 HNEW.out rfl ?_)
    intro w8 hp
    have LB8 : Hid (LB w w8 cs cs' P c1 k1 K) := ⟨(HA7.out.on (alM _ _)).put hp hPg, hp.1, RdK.put O1.out.rd (alM _ _) hp (by omega)⟩
    clear hp HNEW hP O1 HA7
    go_wp2_with (refine wpList_load_row rfl _ _ rfl (w.heap.size + 1) rfl _ _ _ _ LB8.out.l.y Try.underlying86 rfl (by rw [hsz']; kernel_rfl) ?_)
    refine (TK'.out _ (HX'.out.keep LB8.out.l.b (Nat.le_refl _))).mono ?_
    rintro e w9 ⟨k2, c2, rfl, e2, z2, u2, o2, s2, hb9⟩
    have LB9 : Hid (LB w w9 cs cs' P c1 k1 K) := LB8.out.on hb9
    have O2 : Hid (OwnK w9 w8.heap.size k2 K') := o2
    clear hb9 LB8 o2
    obtain ⟨Q, hQ⟩ : ∃ P, w9.heap.size = P := ⟨_, rfl⟩
    have hQg : w.heap.size + 2 ≤ Q := by rw [← hQ]; exact LB9.out.l.gt
    have HNEW : Hid ((w9.alloc (.cells #[.slice none 0 0, .slice none 0 0, .slice none 0 0, .slice none 0 0, .slice none 0 0, .slice none 0 0, .slice none 0 0, .slice none 0 0, .slice none 0 0, .int .i64 0, .bool false, .slice none 0 0] 38)).heap[Q]? = some (.cells #[.slice none 0 0, .slice none 0 0, .slice none 0 0, .slice none 0 0, .slice none 0 0, .slice none 0 0, .slice none 0 0, .slice none 0 0, .slice none 0 0, .int .i64 0, .bool false, .slice none 0 0] 38)) := by rw [← hQ]; exact heap_new w9 _
    go_wp2_with (refine listStoreK rfl rfl _ _ _ rfl rfl Q c2 rfl rfl z2 u2 HNEW.out rfl ?_)
    intro w10 hp
    have hPQ : P ≠ Q := by have := row_lt LB9.out.p; omega
    have LP : Hid (LB w w10 cs cs' P c1 k1 K) := ⟨(LB9.out.l.on (alM _ _)).put hp hQg, hp.far (row_on LB9.out.p (alM _ _)) hPQ, RdK.put LB9.out.r (alM _ _) hp (by omega)⟩
    have LQ : Hid (LB w w10 cs cs' Q c2 k2 K') := ⟨(LB9.out.l.on (alM _ _)).put hp hQg, hp.1, RdK.put O2.out.rd (alM _ _) hp (by omega)⟩
    clear hp HNEW hQ O2 LB9
    go_wp2_with (first | refine wpList_load_row rfl _ _ rfl P rfl _ _ _ _ LP.out.p Try.underlying38 rfl (by rw [z1]; kernel_rfl) ?_ | refine wpList_load_row rfl _ _ rfl Q rfl _ _ _ _ LQ.out.p Try.underlying38 rfl (by rw [z2]; kernel_rfl) ?_)
    have CI := apartI k1 k2 K K' p R HR.out _ LP.out.r LQ.out.r s1 s2
    rw [e1, e2] at CI
    refine CI.mono ?_
    rintro e w11 ⟨rfl, hb11⟩
    have HK : SAb w cs cs' P c1 k1 K Q c2 k2 K' w11.drew := ⟨(LP.out.on hb11).on ((Below.refl _ _).drew), (LQ.out.on hb11).on ((Below.refl _ _).drew)⟩
    have hbb : (R != R) = false := by simp
    clear hb11 LP LQ CI
    go_upto_region 14 with fail
    clear hbb
    go_cut [43] (fun v43 wd => v43 = .bool false ∧ Hid (SAb w cs cs' P c1 k1 K Q c2 k2 K' wd))
    case first =>
      refine wp_region_held_drew (S := fun w' => SAb w cs cs' P c1 k1 K Q c2 k2 K' w') (by kernel_rfl) HK (fun hHeld => ?_)
      have HKa : Hid (SAb w cs cs' P c1 k1 K Q c2 k2 K' w11.drew) := HK
      clear HK
      refine wpAnyH_take (i := 0) (v := .agg c1) rfl (by kernel_rfl) (by kernel_rfl) (by kernel_rfl) (fun _ _ _ h => h) (Or.inl ⟨by rfl, fun w_ hSw => exec_load_row _ _ rfl P rfl _ _ _ hSw.1.p (by kernel_rfl) (by rw [z1]; kernel_rfl)⟩) (by assumption) ?_
      try simp only [Act.put, List.setIfInBounds_toArray, List.set_cons_zero, List.set_cons_succ, List.getElem_toArray, List.getElem_cons_zero, List.getElem_cons_succ]
      refine wpAnyH_take (i := 1) (v := .agg cs) rfl (by kernel_rfl) (by kernel_rfl) (by kernel_rfl) (fun _ _ _ h => h) (Or.inl ⟨by rfl, fun w_ hSw => exec_load_row _ _ rfl w.heap.size rfl _ _ _ hSw.1.l.x (by kernel_rfl) (by rw [hsz]; kernel_rfl)⟩) (by assumption) ?_
      try simp only [Act.put, List.setIfInBounds_toArray, List.set_cons_zero, List.set_cons_succ, List.getElem_toArray, List.getElem_cons_zero, List.getElem_cons_succ]
      refine wpAnyH_ready (rs := [2]) (by kernel_rfl) (by simp) ?_
      refine AllReadyH.cons rfl (fun J hJ => ?_) AllReadyH.nil
      go_simp
      refine (TK.out _ (HX.out.keep HKa.out.1.l.b (Nat.le_refl _))).mono ?_
      rintro e w12 ⟨k3, c3, rfl, e3, z3, _, o3, s3, hb12⟩
      have HKb : Hid (SAb w cs cs' P c1 k1 K Q c2 k2 K' w12) := ⟨HKa.out.1.on hb12, HKa.out.2.on hb12⟩
      have R3 : Hid (RdK w12 k3 K) := o3.rd
      clear hb12 HKa o3
      (try go_wp2_with fail)
      refine hJ.out _ _ HKb.out (fun hHeld2 => ?_)
      clear hJ J hHeld
      try simp only [Act.put, List.setIfInBounds_toArray, List.set_cons_zero, List.set_cons_succ, List.getElem_toArray, List.getElem_cons_zero, List.getElem_cons_succ]
      refine wpAnyH_ready (rs := [3]) (by kernel_rfl) (by simp) ?_
      refine AllReadyH.cons rfl (fun J hJ => ?_) AllReadyH.nil
      go_simp
      have CE := eqK k1 k3 K w12 HKb.out.1.r R3.out s1
      rw [e1, e3] at CE
      refine CE.mono ?_
      rintro e w13 ⟨rfl, hb13⟩
      have HKc : Hid (SAb w cs cs' P c1 k1 K Q c2 k2 K' w13) := ⟨HKb.out.1.on hb13, HKb.out.2.on hb13⟩
      clear hb13 HKb R3 CE e3 s3 z3
      (try go_wp2_with fail)
      refine hJ.out _ _ HKc.out (fun hHeld3 => ?_)
      clear hJ J hHeld2
      try simp only [Act.put, List.setIfInBounds_toArray, List.set_cons_zero, List.set_cons_succ, List.getElem_toArray, List.getElem_cons_zero, List.getElem_cons_succ]
      refine wpAnyH_take (i := 4) (v := ?_) rfl (by kernel_rfl) (by kernel_rfl) (by kernel_rfl) (fun _ _ _ h => h) (Or.inl ⟨by rfl, ?_⟩) (by assumption) ?_
      rotate_left
      · intro w_ hSw; (try dsimp only at hSw); clear hSw; (try clear hHeld3); go_simp <;> with_reducible rfl
      try simp only [Act.put, List.setIfInBounds_toArray, List.set_cons_zero, List.set_cons_succ, List.getElem_toArray, List.getElem_cons_zero, List.getElem_cons_succ]
      clear hHeld3
      refine wpAnyH_done (by kernel_rfl) ?_ _
      (try go_wp2_with fail)
      go_meet
      exact ⟨rfl, HKc⟩
    case rest =>
      obtain ⟨rfl, HKd⟩ := hcut
      clear HK
      obtain ⟨w14, hw14⟩ : ∃ w14, wc = w14 := ⟨_, rfl⟩
      rw [hw14] at HKd ⊢
      clear hw14
      have HK : SAb w cs cs' P c1 k1 K Q c2 k2 K' w14.drew := ⟨HKd.out.1.on ((Below.refl _ _).drew), HKd.out.2.on ((Below.refl _ _).drew)⟩
      clear HKd
      go_upto_region 16 with fail
      go_cut [48] (fun v48 wd => v48 = .bool false ∧ Hid (Below w.heap.size w wd))
      case first =>
        refine wp_region_held_drew (S := fun w' => SAb w cs cs' P c1 k1 K Q c2 k2 K' w') (by kernel_rfl) HK (fun hHeld => ?_)
        have HKa : Hid (SAb w cs cs' P c1 k1 K Q c2 k2 K' w14.drew) := HK
        clear HK
        refine wpAnyH_take (i := 0) (v := .agg c2) rfl (by kernel_rfl) (by kernel_rfl) (by kernel_rfl) (fun _ _ _ h => h) (Or.inl ⟨by rfl, fun w_ hSw => exec_load_row _ _ rfl Q rfl _ _ _ hSw.2.p (by kernel_rfl) (by rw [z2]; kernel_rfl)⟩) (by assumption) ?_
        try simp only [Act.put, List.setIfInBounds_toArray, List.set_cons_zero, List.set_cons_succ, List.getElem_toArray, List.getElem_cons_zero, List.getElem_cons_succ]
        refine wpAnyH_take (i := 1) (v := .agg cs') rfl (by kernel_rfl) (by kernel_rfl) (by kernel_rfl) (fun _ _ _ h => h) (Or.inl ⟨by rfl, fun w_ hSw => exec_load_row _ _ rfl (w.heap.size + 1) rfl _ _ _ hSw.1.l.y (by kernel_rfl) (by rw [hsz']; kernel_rfl)⟩) (by assumption) ?_
        try simp only [Act.put, List.setIfInBounds_toArray, List.set_cons_zero, List.set_cons_succ, List.getElem_toArray, List.getElem_cons_zero, List.getElem_cons_succ]
        refine wpAnyH_ready (rs := [2]) (by kernel_rfl) (by simp) ?_
        refine AllReadyH.cons rfl (fun J hJ => ?_) AllReadyH.nil
        go_simp
        refine (TK'.out _ (HX'.out.keep HKa.out.1.l.b (Nat.le_refl _))).mono ?_
        rintro e w12 ⟨k3, c3, rfl, e3, z3, _, o3, s3, hb12⟩
        have HKb : Hid (SAb w cs cs' P c1 k1 K Q c2 k2 K' w12) := ⟨HKa.out.1.on hb12, HKa.out.2.on hb12⟩
        have R3 : Hid (RdK w12 k3 K') := o3.rd
        clear hb12 HKa o3
        (try go_wp2_with fail)
        refine hJ.out _ _ HKb.out (fun hHeld2 => ?_)
        clear hJ J hHeld
        try simp only [Act.put, List.setIfInBounds_toArray, List.set_cons_zero, List.set_cons_succ, List.getElem_toArray, List.getElem_cons_zero, List.getElem_cons_succ]
        refine wpAnyH_ready (rs := [3]) (by kernel_rfl) (by simp) ?_
        refine AllReadyH.cons rfl (fun J hJ => ?_) AllReadyH.nil
        go_simp
        have CE := eqK k2 k3 K' w12 HKb.out.2.r R3.out s2
        rw [e2, e3] at CE
        refine CE.mono ?_
        rintro e w13 ⟨rfl, hb13⟩
        have HKc : Hid (SAb w cs cs' P c1 k1 K Q c2 k2 K' w13) := ⟨HKb.out.1.on hb13, HKb.out.2.on hb13⟩
        clear hb13 HKb R3 CE e3 s3 z3
        (try go_wp2_with fail)
        refine hJ.out _ _ HKc.out (fun hHeld3 => ?_)
        clear hJ J hHeld2
        try simp only [Act.put, List.setIfInBounds_toArray, List.set_cons_zero, List.set_cons_succ, List.getElem_toArray, List.getElem_cons_zero, List.getElem_cons_succ]
        refine wpAnyH_take (i := 4) (v := ?_) rfl (by kernel_rfl) (by kernel_rfl) (by kernel_rfl) (fun _ _ _ h => h) (Or.inl ⟨by rfl, ?_⟩) (by assumption) ?_
        rotate_left
        · intro w_ hSw; (try dsimp only at hSw); clear hSw; (try clear hHeld3); go_simp <;> with_reducible rfl
        try simp only [Act.put, List.setIfInBounds_toArray, List.set_cons_zero, List.set_cons_succ, List.getElem_toArray, List.getElem_cons_zero, List.getElem_cons_succ]
        clear hHeld3
        refine wpAnyH_done (by kernel_rfl) ?_ _
        (try go_wp2_with fail)
        go_meet
        exact ⟨rfl, HKc.out.1.l.b⟩
      case rest =>
        obtain ⟨rfl, HZ⟩ := hcut
        clear HK
        go_wp2
        go_ret
        exact ⟨rfl, HZ.out⟩
end Go.Proofs.Ytfdhcchakoldpaa.fnExactApart
