/-
  A set-up, a kernel that was made anew is marked.
-/
import Derived.Test.YtokcbfgajcelhabKMk
import Derived.Test.YtokcbfgajcelhabKer
namespace Go.Proofs.Ytokcbfgajcelhab
open Go.ChangeShapes Go.WideShapes Go.ChangeAt Go.RowKit Go.PlainAid
set_option linter.unusedVariables false

theorem intC_row {w : World} {g : Nat} {T : TypeId} {xs : List Value} {N : Nat} (h : w.heap[g]? = some (.cells xs.toArray T (0, 0))) (hl : xs.length = N) (ha : ∀ v ∈ xs, ∃ z, v = .int .i64 z) : ∀ i, i < N → IntC w g i := fun i hi => by
  have hi' : i < xs.length := by omega
  obtain ⟨z, hz⟩ := ha xs[i] (List.getElem_mem hi')
  exact ⟨_, T, z, h, by simp [hi', hz]⟩
theorem strC_row {w : World} {g : Nat} {T : TypeId} {xs : List Value} {N : Nat} (h : w.heap[g]? = some (.cells xs.toArray T (0, 0))) (hl : xs.length = N) (ha : ∀ v ∈ xs, ∃ z, v = .string z) : ∀ i, i < N → StrC w g i := fun i hi => by
  have hi' : i < xs.length := by omega
  obtain ⟨z, hz⟩ := ha xs[i] (List.getElem_mem hi')
  exact ⟨_, T, z, h, by simp [hi', hz]⟩
theorem int_R : ∀ (l : List (Int × Int)) (v : Value), v ∈ R.regsV l → ∃ z, v = .int .i64 z
  | [], v, h => by simp [R.regsV] at h
  | r :: l, v, h => by
    simp [R.regsV] at h
    rcases h with (rfl | rfl | h)
    · exact ⟨_, rfl⟩
    · exact ⟨_, rfl⟩
    · exact int_R l v h
theorem int_W : ∀ (l : List (Int × Int)) (v : Value), v ∈ regsV l → ∃ z, v = .int .i64 z
  | [], v, h => by simp [regsV] at h
  | r :: l, v, h => by
    simp [regsV] at h
    rcases h with (rfl | rfl | h)
    · exact ⟨_, rfl⟩
    · exact ⟨_, rfl⟩
    · exact int_W l v h
theorem int_M : ∀ (l : List (Int × Int)) (v : Value), v ∈ P.regsV l → ∃ z, v = .int .i64 z
  | [], v, h => by simp [P.regsV] at h
  | r :: l, v, h => by
    simp [P.regsV] at h
    rcases h with (rfl | rfl | h)
    · exact ⟨_, rfl⟩
    · exact ⟨_, rfl⟩
    · exact int_M l v h
theorem int_U : ∀ (l : List (Rule)) (v : Value), v ∈ rulV l → ∃ z, v = .int .i64 z
  | [], v, h => by simp [rulV] at h
  | r :: l, v, h => by
    simp [rulV] at h
    rcases h with (rfl | rfl | rfl | h)
    · exact ⟨_, rfl⟩
    · exact ⟨_, rfl⟩
    · exact ⟨_, rfl⟩
    · exact int_U l v h
theorem int_O : ∀ (l : List (Prt)) (v : Value), v ∈ prtV l → ∃ z, v = .int .i64 z
  | [], v, h => by simp [prtV] at h
  | r :: l, v, h => by
    simp [prtV] at h
    rcases h with (rfl | rfl | rfl | rfl | rfl | h)
    · exact ⟨_, rfl⟩
    · exact ⟨_, rfl⟩
    · exact ⟨_, rfl⟩
    · exact ⟨_, rfl⟩
    · exact ⟨_, rfl⟩
    · exact int_O l v h
theorem int_E : ∀ (l : List (Ent)) (v : Value), v ∈ entV l → ∃ z, v = .int .i64 z
  | [], v, h => by simp [entV] at h
  | r :: l, v, h => by
    simp [entV] at h
    rcases h with (rfl | rfl | rfl | rfl | rfl | h)
    · exact ⟨_, rfl⟩
    · exact ⟨_, rfl⟩
    · exact ⟨_, rfl⟩
    · exact ⟨_, rfl⟩
    · exact ⟨_, rfl⟩
    · exact int_E l v h
theorem int_I (l : List Int) (v : Value) (h : v ∈ intsV l) : ∃ z, v = .int .i64 z := by
  simp [intsV] at h
  obtain ⟨z, _, rfl⟩ := h
  exact ⟨z, rfl⟩
theorem str_S (l : List ByteArray) (v : Value) (h : v ∈ S.strV l) : ∃ z, v = .string z := by
  simp [S.strV] at h
  obtain ⟨z, _, rfl⟩ := h
  exact ⟨z, rfl⟩
set_option maxRecDepth 100000 in
set_option maxHeartbeats 4000000 in
theorem mkwX (s : SH) (X : SX) (lo : Nat) (w0 w : World) (h : RwX w0 lo s X) (hb : Below w0.heap.size w0 w) (hs : SmX s X) :
    Calls Try.prog 42 #[SetV s, .int .i64 1] w fun e w' => ∃ r : Int, e = .returned (.int .i64 r) ∧ 0 < r ∧ r ≤ 30000000 ∧ Mkd lo w0.heap.size w w' := by
  obtain ⟨g0, g1, g2, g3, g4, rfl, ⟨l0, l1, l2, l3, l4⟩, r0, r1, r2, r3, r4⟩ := h.ex
  have u0 := r0.lt
  have u1 := r1.lt
  have u2 := r2.lt
  have u3 := r3.lt
  have u4 := r4.lt
  have m0 := hs.n0
  have m1 := hs.n1
  have m2 := hs.n2
  have m3 := hs.n3
  have m4 := hs.n4
  dsimp only at m0 m1 m2 m3 m4
  obtain ⟨B, hB⟩ : ∃ B, w0.heap.size = B := ⟨_, rfl⟩
  have hWB : B ≤ w.heap.size := by rw [← hB]; exact hb.size
  have c0 : ∀ i, i < X.R.length * 2 → IntC w g0 i := intC_row (row_on r0 hb) (R.regsV_len _) (int_R _)
  have c1 : ∀ i, i < X.W.length * 2 → IntC w g1 i := intC_row (row_on r1 hb) (regsV_len _) (int_W _)
  have c2 : ∀ i, i < X.O.length * 5 → IntC w g2 i := intC_row (row_on r2 hb) (prtV_len _) (int_O _)
  have c3 : ∀ i, i < X.U.length * 3 → IntC w g3 i := intC_row (row_on r3 hb) (rulV_len _) (int_U _)
  have c4 : ∀ i, i < X.S.length → StrC w g4 i := strC_row (row_on r4 hb) (S.strV_len _) (str_S _)
  rw [hB] at u0 u1 u2 u3 u4 ⊢
  obtain ⟨n0, e0⟩ : ∃ n, X.R.length = n := ⟨_, rfl⟩
  obtain ⟨n1, e1⟩ : ∃ n, X.W.length = n := ⟨_, rfl⟩
  obtain ⟨n2, e2⟩ : ∃ n, X.O.length = n := ⟨_, rfl⟩
  obtain ⟨n3, e3⟩ : ∃ n, X.U.length = n := ⟨_, rfl⟩
  obtain ⟨n4, e4⟩ : ∃ n, X.S.length = n := ⟨_, rfl⟩
  unfold SetV
  dsimp only
  rw [e0] at m0 c0 ⊢
  rw [e1] at m1 c1 ⊢
  rw [e2] at m2 c2 ⊢
  rw [e3] at m3 c3 ⊢
  rw [e4] at m4 c4 ⊢
  have HA : Hid (Mkd lo B w (w.alloc (.cells #[.slice (some ⟨g0, 0, none⟩) n0 n0, .slice (some ⟨g1, 0, none⟩) n1 n1, .slice (some ⟨g2, 0, none⟩) n2 n2, .slice (some ⟨g3, 0, none⟩) n3 n3, .slice (some ⟨g4, 0, none⟩) n4 n4] 49))) := Mkd.of_below ((Below.refl _ _).alloc (Nat.le_refl _) _)
  have HR : Hid ((w.alloc (.cells #[.slice (some ⟨g0, 0, none⟩) n0 n0, .slice (some ⟨g1, 0, none⟩) n1 n1, .slice (some ⟨g2, 0, none⟩) n2 n2, .slice (some ⟨g3, 0, none⟩) n3 n3, .slice (some ⟨g4, 0, none⟩) n4 n4] 49)).heap[w.heap.size]? = some (.cells #[.slice (some ⟨g0, 0, none⟩) n0 n0, .slice (some ⟨g1, 0, none⟩) n1 n1, .slice (some ⟨g2, 0, none⟩) n2 n2, .slice (some ⟨g3, 0, none⟩) n3 n3, .slice (some ⟨g4, 0, none⟩) n4 n4] 49)) := heap_new w _
  have C0 : Hid (∀ i, i < n0 * 2 → IntC w g0 i) := c0
  have C1 : Hid (∀ i, i < n1 * 2 → IntC w g1 i) := c1
  have C2 : Hid (∀ i, i < n2 * 5 → IntC w g2 i) := c2
  have C3 : Hid (∀ i, i < n3 * 3 → IntC w g3 i) := c3
  have C4 : Hid (∀ i, i < n4 → StrC w g4 i) := c4
  clear c0 c1 c2 c3 c4 r0 r1 r2 r3 r4 e0 e1 e2 e3 e4 hs h hb hB
  go_enter Try.func42, Try.ntmps42
  go_wp2_with fail
  refine (mkwR g0 n0 lo B 1 (by omega) (by omega) m0 _ (fun i hi' => (C0.out i hi').mk' HA.out) l0 u0).mono ?_
  rintro e w1 ⟨rfl, hm⟩
  have HM0 : Hid (Mkd lo B w w1) := HA.out.trans hm
  have HR0 : Hid (w1.heap[w.heap.size]? = some (.cells #[.slice (some ⟨g0, 0, none⟩) n0 n0, .slice (some ⟨g1, 0, none⟩) n1 n1, .slice (some ⟨g2, 0, none⟩) n2 n2, .slice (some ⟨g3, 0, none⟩) n3 n3, .slice (some ⟨g4, 0, none⟩) n4 n4] 49)) := hm.row HR.out (.inr hWB)
  have kb0 := boxO_cells HR0.out
  obtain ⟨k1, hk1⟩ : ∃ k : Int, (1 : Int) + 2 * (n0 : Int) = k := ⟨_, rfl⟩
  rw [hk1]
  clear hm HA HR C0
  go_wp2_with fail
  refine (mkwW g1 n1 lo B k1 (by omega) (by omega) m1 _ (fun i hi' => (C1.out i hi').mk' HM0.out) l1 u1).mono ?_
  rintro e w2 ⟨rfl, hm⟩
  have HM1 : Hid (Mkd lo B w w2) := HM0.out.trans hm
  have HR1 : Hid (w2.heap[w.heap.size]? = some (.cells #[.slice (some ⟨g0, 0, none⟩) n0 n0, .slice (some ⟨g1, 0, none⟩) n1 n1, .slice (some ⟨g2, 0, none⟩) n2 n2, .slice (some ⟨g3, 0, none⟩) n3 n3, .slice (some ⟨g4, 0, none⟩) n4 n4] 49)) := hm.row HR0.out (.inr hWB)
  have kb1 := boxO_cells HR1.out
  obtain ⟨k2, hk2⟩ : ∃ k : Int, k1 + 2 * (n1 : Int) = k := ⟨_, rfl⟩
  rw [hk2]
  clear hm HM0 HR0 kb0 C1
  go_wp2_with fail
  refine (mkwO g2 n2 lo B k2 (by omega) (by omega) m2 _ (fun i hi' => (C2.out i hi').mk' HM1.out) l2 u2).mono ?_
  rintro e w3 ⟨rfl, hm⟩
  have HM2 : Hid (Mkd lo B w w3) := HM1.out.trans hm
  have HR2 : Hid (w3.heap[w.heap.size]? = some (.cells #[.slice (some ⟨g0, 0, none⟩) n0 n0, .slice (some ⟨g1, 0, none⟩) n1 n1, .slice (some ⟨g2, 0, none⟩) n2 n2, .slice (some ⟨g3, 0, none⟩) n3 n3, .slice (some ⟨g4, 0, none⟩) n4 n4] 49)) := hm.row HR1.out (.inr hWB)
  have kb2 := boxO_cells HR2.out
  obtain ⟨k3, hk3⟩ : ∃ k : Int, k2 + 5 * (n2 : Int) = k := ⟨_, rfl⟩
  rw [hk3]
  clear hm HM1 HR1 kb1 C2
  go_wp2_with fail
  refine (mkwU g3 n3 lo B k3 (by omega) (by omega) m3 _ (fun i hi' => (C3.out i hi').mk' HM2.out) l3 u3).mono ?_
  rintro e w4 ⟨rfl, hm⟩
  have HM3 : Hid (Mkd lo B w w4) := HM2.out.trans hm
  have HR3 : Hid (w4.heap[w.heap.size]? = some (.cells #[.slice (some ⟨g0, 0, none⟩) n0 n0, .slice (some ⟨g1, 0, none⟩) n1 n1, .slice (some ⟨g2, 0, none⟩) n2 n2, .slice (some ⟨g3, 0, none⟩) n3 n3, .slice (some ⟨g4, 0, none⟩) n4 n4] 49)) := hm.row HR2.out (.inr hWB)
  have kb3 := boxO_cells HR3.out
  obtain ⟨k4, hk4⟩ : ∃ k : Int, k3 + 3 * (n3 : Int) = k := ⟨_, rfl⟩
  rw [hk4]
  clear hm HM2 HR2 kb2 C3
  go_wp2_with fail
  refine (mkwS g4 n4 lo B k4 (by omega) (by omega) m4 _ (fun i hi' => (C4.out i hi').mk' HM3.out) l4 u4).mono ?_
  rintro e w5 ⟨rfl, hm⟩
  have HM4 : Hid (Mkd lo B w w5) := HM3.out.trans hm
  have HR4 : Hid (w5.heap[w.heap.size]? = some (.cells #[.slice (some ⟨g0, 0, none⟩) n0 n0, .slice (some ⟨g1, 0, none⟩) n1 n1, .slice (some ⟨g2, 0, none⟩) n2 n2, .slice (some ⟨g3, 0, none⟩) n3 n3, .slice (some ⟨g4, 0, none⟩) n4 n4] 49)) := hm.row HR3.out (.inr hWB)
  have kb4 := boxO_cells HR4.out
  obtain ⟨k5, hk5⟩ : ∃ k : Int, k4 + (n4 : Int) = k := ⟨_, rfl⟩
  rw [hk5]
  clear hm HM3 HR3 kb3 C4
  go_wp2
  go_ret
  exact ⟨k5, rfl, by omega, by omega, HM4.out⟩
theorem msgs_len (l : MsgL) : (P.regsV l).length = l.length * 2 := P.regsV_len l
theorem par_int {w : World} {g n : Nat} {v : List PV} {l : List PX} {b : Nat → Nat} (hr : RowQ w g v) (hl : v.length = n) (hl' : l.length = n) (hv : ∀ j (h : j < l.length) (h' : j < v.length), v[j] = pvOf l[j] (some ⟨b j, 0, none⟩) l[j].sk.length) : ∀ i, partI n i → IntC w g i := by
  rintro i ⟨h1, h2⟩
  have hj : i / 6 < v.length := by omega
  have hj' : i / 6 < l.length := by omega
  have ha := parV_at v (i / 6) hj
  rw [hv _ hj' hj] at ha
  unfold pvOf at ha
  have h3 : i % 6 = 0 ∨ i % 6 = 1 ∨ i % 6 = 3 ∨ i % 6 = 4 ∨ i % 6 = 5 := by omega
  rcases h3 with e | e | e | e | e
  · exact ⟨_, _, _, hr, by have := ha.1; rw [show i / 6 * 6 = i by omega] at this; simpa using this⟩
  · exact ⟨_, _, _, hr, by have := ha.2.1; rw [show i / 6 * 6 + 1 = i by omega] at this; simpa using this⟩
  · exact ⟨_, _, _, hr, by have := ha.2.2.2.1; rw [show i / 6 * 6 + 3 = i by omega] at this; simpa using this⟩
  · exact ⟨_, _, _, hr, by have := ha.2.2.2.2.1; rw [show i / 6 * 6 + 4 = i by omega] at this; simpa using this⟩
  · exact ⟨_, _, _, hr, by have := ha.2.2.2.2.2; rw [show i / 6 * 6 + 5 = i by omega] at this; simpa using this⟩
theorem par_sli {w : World} {g n : Nat} {v : List PV} {l : List PX} {b : Nat → Nat} (hr : RowQ w g v) (hl : v.length = n) (hl' : l.length = n) (hv : ∀ j (h : j < l.length) (h' : j < v.length), v[j] = pvOf l[j] (some ⟨b j, 0, none⟩) l[j].sk.length) : ∀ j (h : j < n), SliC w g (j * 6 + 2) (some ⟨b j, 0, none⟩) ((l.map (·.sk.length)).getD j 0) ((l.map (·.sk.length)).getD j 0) := by
  intro j h
  have hj : j < v.length := by omega
  have hj' : j < l.length := by omega
  have ha := (parV_at v j hj).2.2.1
  rw [hv _ hj' hj] at ha
  unfold pvOf at ha
  refine ⟨_, _, hr, ?_⟩
  have e : (l.map (·.sk.length)).getD j 0 = l[j].sk.length := by simp [hj']
  rw [e]
  simpa using ha
theorem lin_sli {w : World} {g n : Nat} {v : List Value} {l : List MsgL} {b : Nat → Nat} (hr : RowV w g v) (hl : v.length = n) (hl' : l.length = n) (hv : ∀ j (h : j < l.length) (h' : j < v.length), v[j] = .slice (some ⟨b j, 0, none⟩) l[j].length l[j].length) : ∀ j (h : j < n), SliC w g j (some ⟨b j, 0, none⟩) ((l.map (·.length)).getD j 0) ((l.map (·.length)).getD j 0) := by
  intro j h
  have hj : j < v.length := by omega
  have hj' : j < l.length := by omega
  refine ⟨_, _, hr, ?_⟩
  have e : (l.map (·.length)).getD j 0 = l[j].length := by simp [hj']
  rw [e]
  simp [hj, hv j hj' hj]
set_option maxRecDepth 100000 in
set_option maxHeartbeats 8000000 in
theorem mkwK (k : KH) (K : KX) (lo : Nat) (w0 w : World) (h : OwnK w0 lo k K) (hb : Below w0.heap.size w0 w) (hs : SmK k K) :
    Calls Try.prog 11 #[KerV k K, .int .i64 1] w fun e w' => ∃ r : Int, e = .returned (.int .i64 r) ∧ 0 < r ∧ Mkd lo w0.heap.size w w' := by
  obtain ⟨s, qA, cA, qP, cP, qL, cL, qO, cO, qE, cE⟩ := k
  obtain ⟨X, A, P, L, O, tu, sp, E⟩ := K
  obtain ⟨gA, eA, lA, rA⟩ := h.a
  obtain ⟨gP, bP, vP, eP, lP, rP, nvP, cvP⟩ := h.p.ex
  obtain ⟨gL, bL, vL, eL, lL, rL, nvL, cvL⟩ := h.l.ex
  obtain ⟨gO, eO, lO, rO⟩ := h.o
  obtain ⟨gE, eE, lE, rE⟩ := h.e
  have HXX : Hid (RwX w0 lo s X) := h.x
  have HBB : Hid (Below w0.heap.size w0 w) := hb
  have HSX : Hid (SmX s X) := hs.x
  have f1 := h.ca
  have f2 := h.cp
  have f3 := h.cl
  have f4 := h.co
  have f5 := h.ce
  have m1 := hs.a
  have m2 := hs.p
  have m3 := hs.l
  have m4 := hs.o
  have m5 := hs.e
  have p2 := hs.ps
  have p3 := hs.ls
  dsimp only at eA eP eL eO eE rA rP rL rO rE nvP nvL cvP cvL f1 f2 f3 f4 f5 m1 m2 m3 m4 m5 p2 p3
  subst eA eP eL eO eE f1 f2 f3 f4 f5
  obtain ⟨nA, hA⟩ : ∃ n, A.length = n := ⟨_, rfl⟩
  obtain ⟨nP, hP⟩ : ∃ n, P.length = n := ⟨_, rfl⟩
  obtain ⟨nL, hL⟩ : ∃ n, L.length = n := ⟨_, rfl⟩
  obtain ⟨nO, hO⟩ : ∃ n, O.length = n := ⟨_, rfl⟩
  obtain ⟨nE, hE⟩ : ∃ n, E.length = n := ⟨_, rfl⟩
  have uA := rA.lt
  have uP := rP.lt
  have uL := rL.lt
  have uO := rO.lt
  have uE := rE.lt
  have CA : Hid (∀ i, i < nA * 1 → IntC w gA i) := intC_row (row_on rA hb) (by rw [intsV_len, hA, Nat.mul_one]) (int_I _)
  have CO : Hid (∀ i, i < nO * 1 → IntC w gO i) := intC_row (row_on rO hb) (by rw [intsV_len, hO, Nat.mul_one]) (int_I _)
  have CE : Hid (∀ i, i < nE * 5 → IntC w gE i) := intC_row (row_on rE hb) (by rw [entV_len, hE]) (int_E _)
  have CP : Hid (∀ i, partI nP i → IntC w gP i) := par_int (rP.on hb) (nvP.trans hP) hP (fun j h h' => (cvP j h h').1)
  have CPs : Hid (∀ j, j < nP → SliC w gP (j * 6 + 2) (some ⟨bP j, 0, none⟩) ((P.map (·.sk.length)).getD j 0) ((P.map (·.sk.length)).getD j 0)) := par_sli (rP.on hb) (nvP.trans hP) hP (fun j h h' => (cvP j h h').1)
  have CPm : Hid (∀ j, j < nP → (P.map (·.sk.length)).getD j 0 ≤ 1048576) := fun j hj => by
    have hj' : j < P.length := by omega
    have e : (P.map (·.sk.length)).getD j 0 = P[j].sk.length := by simp [hj']
    rw [e]; exact p2 j hj'
  have CPc : Hid (∀ j, j < nP → ∀ i, i < (P.map (·.sk.length)).getD j 0 * 1 → IntC w (bP j) i) := fun j hj => by
    have hj' : j < P.length := by omega
    have e : (P.map (·.sk.length)).getD j 0 = P[j].sk.length := by simp [hj']
    rw [e, Nat.mul_one]
    exact intC_row (row_on (cvP j hj' (by omega)).2.2 hb) (by rw [intsV_len]) (int_I _)
  have CPb : Hid (∀ j, j < nP → lo ≤ bP j ∧ bP j < w0.heap.size) := fun j hj => ⟨(cvP j (by omega) (by omega)).2.1, (cvP j (by omega) (by omega)).2.2.lt⟩
  have CLs : Hid (∀ j, j < nL → SliC w gL j (some ⟨bL j, 0, none⟩) ((L.map (·.length)).getD j 0) ((L.map (·.length)).getD j 0)) := lin_sli (rL.on hb) (nvL.trans hL) hL (fun j h h' => (cvL j h h').1)
  have CLm : Hid (∀ j, j < nL → (L.map (·.length)).getD j 0 ≤ 1048576) := fun j hj => by
    have hj' : j < L.length := by omega
    have e : (L.map (·.length)).getD j 0 = L[j].length := by simp [hj']
    rw [e]; exact p3 j hj'
  have CLc : Hid (∀ j, j < nL → ∀ i, i < (L.map (·.length)).getD j 0 * 2 → IntC w (bL j) i) := fun j hj => by
    have hj' : j < L.length := by omega
    have e : (L.map (·.length)).getD j 0 = L[j].length := by simp [hj']
    rw [e]
    exact intC_row (row_on (cvL j hj' (by omega)).2.2 hb) (by rw [msgs_len]) (int_M _)
  have CLb : Hid (∀ j, j < nL → lo ≤ bL j ∧ bL j < w0.heap.size) := fun j hj => ⟨(cvL j (by omega) (by omega)).2.1, (cvL j (by omega) (by omega)).2.2.lt⟩
  obtain ⟨B, hB⟩ : ∃ B, w0.heap.size = B := ⟨_, rfl⟩
  have hWB : B ≤ w.heap.size := by rw [← hB]; exact hb.size
  unfold KerV
  dsimp only
  rw [hA] at m1 ⊢
  rw [hP] at m2 ⊢
  rw [hL] at m3 ⊢
  rw [hO] at m4 ⊢
  rw [hE] at m5 ⊢
  have HA : Hid (Mkd lo B w (w.alloc (.cells #[.slice s.q0 s.n0 s.c0, .slice s.q1 s.n1 s.c1, .slice s.q2 s.n2 s.c2, .slice s.q3 s.n3 s.c3, .slice s.q4 s.n4 s.c4, .slice (some ⟨gA, 0, none⟩) nA nA, .slice (some ⟨gP, 0, none⟩) nP nP, .slice (some ⟨gL, 0, none⟩) nL nL, .slice (some ⟨gO, 0, none⟩) nO nO, .int .i64 tu, .bool sp, .slice (some ⟨gE, 0, none⟩) nE nE] 55))) := Mkd.of_below ((Below.refl _ _).alloc (Nat.le_refl _) _)
  have HR : Hid ((w.alloc (.cells #[.slice s.q0 s.n0 s.c0, .slice s.q1 s.n1 s.c1, .slice s.q2 s.n2 s.c2, .slice s.q3 s.n3 s.c3, .slice s.q4 s.n4 s.c4, .slice (some ⟨gA, 0, none⟩) nA nA, .slice (some ⟨gP, 0, none⟩) nP nP, .slice (some ⟨gL, 0, none⟩) nL nL, .slice (some ⟨gO, 0, none⟩) nO nO, .int .i64 tu, .bool sp, .slice (some ⟨gE, 0, none⟩) nE nE] 55)).heap[w.heap.size]? = some (.cells #[.slice s.q0 s.n0 s.c0, .slice s.q1 s.n1 s.c1, .slice s.q2 s.n2 s.c2, .slice s.q3 s.n3 s.c3, .slice s.q4 s.n4 s.c4, .slice (some ⟨gA, 0, none⟩) nA nA, .slice (some ⟨gP, 0, none⟩) nP nP, .slice (some ⟨gL, 0, none⟩) nL nL, .slice (some ⟨gO, 0, none⟩) nO nO, .int .i64 tu, .bool sp, .slice (some ⟨gE, 0, none⟩) nE nE] 55)) := heap_new w _
  have HBA : Hid (Below w0.heap.size w0 (w.alloc (.cells #[.slice s.q0 s.n0 s.c0, .slice s.q1 s.n1 s.c1, .slice s.q2 s.n2 s.c2, .slice s.q3 s.n3 s.c3, .slice s.q4 s.n4 s.c4, .slice (some ⟨gA, 0, none⟩) nA nA, .slice (some ⟨gP, 0, none⟩) nP nP, .slice (some ⟨gL, 0, none⟩) nL nL, .slice (some ⟨gO, 0, none⟩) nO nO, .int .i64 tu, .bool sp, .slice (some ⟨gE, 0, none⟩) nE nE] 55))) := bel_on (Nat.le_refl _) hb ((Below.refl _ _).alloc (Nat.le_refl _) _)
  have XM : Hid (∀ W, Below w0.heap.size w0 W → Calls Try.prog 42 #[.agg #[.slice s.q0 s.n0 s.c0, .slice s.q1 s.n1 s.c1, .slice s.q2 s.n2 s.c2, .slice s.q3 s.n3 s.c3, .slice s.q4 s.n4 s.c4], .int .i64 1] W fun e w' => ∃ r : Int, e = .returned (.int .i64 r) ∧ 0 < r ∧ r ≤ 30000000 ∧ Mkd lo w0.heap.size W w') := fun W hW => mkwX s X lo w0 W HXX.out hW HSX.out
  clear h hb hs hA hP hL hO hE rA rP rL rO rE cvP cvL nvP nvL p2 p3 HXX HBB HSX
  rw [hB] at CPb CLb uA uP uL uO uE ⊢
  rw [hB] at XM
  have HB0 : Hid (w0.heap.size = B) := hB
  clear hB
  go_enter Try.func11, Try.ntmps11
  go_wp2_with fail
  refine (XM.out _ (by have := HBA.out; rw [HB0.out] at this; exact this)).mono ?_
  rintro e w1 ⟨k1, rfl, k10, k11, hm⟩
  have HM1 : Hid (Mkd lo B w w1) := HA.out.trans hm
  have HR1 : Hid (w1.heap[w.heap.size]? = some (.cells #[.slice s.q0 s.n0 s.c0, .slice s.q1 s.n1 s.c1, .slice s.q2 s.n2 s.c2, .slice s.q3 s.n3 s.c3, .slice s.q4 s.n4 s.c4, .slice (some ⟨gA, 0, none⟩) nA nA, .slice (some ⟨gP, 0, none⟩) nP nP, .slice (some ⟨gL, 0, none⟩) nL nL, .slice (some ⟨gO, 0, none⟩) nO nO, .int .i64 tu, .bool sp, .slice (some ⟨gE, 0, none⟩) nE nE] 55)) := hm.row HR.out (.inr hWB)
  have kb1 := box12_cells HR1.out
  clear hm HA HR
  go_wp2_with fail
  refine (mkwA gA nA lo B k1 (by omega) (by omega) m1 _ (fun i hi' => (CA.out i hi').mk' HM1.out) lA uA).mono ?_
  rintro e w2 ⟨rfl, hm⟩
  have HM2 : Hid (Mkd lo B w w2) := HM1.out.trans hm
  have HR2 : Hid (w2.heap[w.heap.size]? = some (.cells #[.slice s.q0 s.n0 s.c0, .slice s.q1 s.n1 s.c1, .slice s.q2 s.n2 s.c2, .slice s.q3 s.n3 s.c3, .slice s.q4 s.n4 s.c4, .slice (some ⟨gA, 0, none⟩) nA nA, .slice (some ⟨gP, 0, none⟩) nP nP, .slice (some ⟨gL, 0, none⟩) nL nL, .slice (some ⟨gO, 0, none⟩) nO nO, .int .i64 tu, .bool sp, .slice (some ⟨gE, 0, none⟩) nE nE] 55)) := hm.row HR1.out (.inr hWB)
  have kb2 := box12_cells HR2.out
  clear hm HM1 HR1 kb1
  obtain ⟨k2, hk2⟩ : ∃ k : Int, k1 + (nA : Int) = k := ⟨_, rfl⟩
  rw [hk2]
  go_wp2_with fail
  refine (mkwPs gP nP lo B bP (fun j => (P.map (·.sk.length)).getD j 0) k2 (by omega) (by omega) m2 _ (fun i hi' => (CP.out i hi').mk' HM2.out) (fun j hj => (CPs.out j hj).mk' HM2.out) CPm.out (fun j hj i hi' => (CPc.out j hj i hi').mk' HM2.out) CPb.out lP uP).mono ?_
  rintro e w3 ⟨k3, rfl, k30, k31, hm⟩
  have HM3 : Hid (Mkd lo B w w3) := HM2.out.trans hm
  have HR3 : Hid (w3.heap[w.heap.size]? = some (.cells #[.slice s.q0 s.n0 s.c0, .slice s.q1 s.n1 s.c1, .slice s.q2 s.n2 s.c2, .slice s.q3 s.n3 s.c3, .slice s.q4 s.n4 s.c4, .slice (some ⟨gA, 0, none⟩) nA nA, .slice (some ⟨gP, 0, none⟩) nP nP, .slice (some ⟨gL, 0, none⟩) nL nL, .slice (some ⟨gO, 0, none⟩) nO nO, .int .i64 tu, .bool sp, .slice (some ⟨gE, 0, none⟩) nE nE] 55)) := hm.row HR2.out (.inr hWB)
  have kb3 := box12_cells HR3.out
  clear hm HM2 HR2 kb2
  go_wp2_with fail
  refine (mkwLs gL nL lo B bL (fun j => (L.map (·.length)).getD j 0) k3 (by omega) (by omega) m3 _ (fun j hj => (CLs.out j hj).mk' HM3.out) CLm.out (fun j hj i hi' => (CLc.out j hj i hi').mk' HM3.out) CLb.out).mono ?_
  rintro e w4 ⟨k4, rfl, k40, k41, hm⟩
  have HM4 : Hid (Mkd lo B w w4) := HM3.out.trans hm
  have HR4 : Hid (w4.heap[w.heap.size]? = some (.cells #[.slice s.q0 s.n0 s.c0, .slice s.q1 s.n1 s.c1, .slice s.q2 s.n2 s.c2, .slice s.q3 s.n3 s.c3, .slice s.q4 s.n4 s.c4, .slice (some ⟨gA, 0, none⟩) nA nA, .slice (some ⟨gP, 0, none⟩) nP nP, .slice (some ⟨gL, 0, none⟩) nL nL, .slice (some ⟨gO, 0, none⟩) nO nO, .int .i64 tu, .bool sp, .slice (some ⟨gE, 0, none⟩) nE nE] 55)) := hm.row HR3.out (.inr hWB)
  have kb4 := box12_cells HR4.out
  clear hm HM3 HR3 kb3
  go_wp2_with fail
  refine (mkwI gO nO lo B k4 (by omega) (by omega) m4 _ (fun i hi' => (CO.out i hi').mk' HM4.out) lO uO).mono ?_
  rintro e w5 ⟨rfl, hm⟩
  have HM5 : Hid (Mkd lo B w w5) := HM4.out.trans hm
  have HR5 : Hid (w5.heap[w.heap.size]? = some (.cells #[.slice s.q0 s.n0 s.c0, .slice s.q1 s.n1 s.c1, .slice s.q2 s.n2 s.c2, .slice s.q3 s.n3 s.c3, .slice s.q4 s.n4 s.c4, .slice (some ⟨gA, 0, none⟩) nA nA, .slice (some ⟨gP, 0, none⟩) nP nP, .slice (some ⟨gL, 0, none⟩) nL nL, .slice (some ⟨gO, 0, none⟩) nO nO, .int .i64 tu, .bool sp, .slice (some ⟨gE, 0, none⟩) nE nE] 55)) := hm.row HR4.out (.inr hWB)
  have kb5 := box12_cells HR5.out
  clear hm HM4 HR4 kb4
  obtain ⟨k5, hk5⟩ : ∃ k : Int, k4 + (nO : Int) = k := ⟨_, rfl⟩
  rw [hk5]
  go_wp2_with fail
  refine (mkwE gE nE lo B k5 (by omega) (by omega) m5 _ (fun i hi' => (CE.out i hi').mk' HM5.out) lE uE).mono ?_
  rintro e w6 ⟨rfl, hm⟩
  have HM6 : Hid (Mkd lo B w w6) := HM5.out.trans hm
  have HR6 : Hid (w6.heap[w.heap.size]? = some (.cells #[.slice s.q0 s.n0 s.c0, .slice s.q1 s.n1 s.c1, .slice s.q2 s.n2 s.c2, .slice s.q3 s.n3 s.c3, .slice s.q4 s.n4 s.c4, .slice (some ⟨gA, 0, none⟩) nA nA, .slice (some ⟨gP, 0, none⟩) nP nP, .slice (some ⟨gL, 0, none⟩) nL nL, .slice (some ⟨gO, 0, none⟩) nO nO, .int .i64 tu, .bool sp, .slice (some ⟨gE, 0, none⟩) nE nE] 55)) := hm.row HR5.out (.inr hWB)
  have kb6 := box12_cells HR6.out
  clear hm HM5 HR5 kb5
  go_wp2
  go_ret
  exact ⟨_, rfl, by omega, HM6.out⟩
end Go.Proofs.Ytokcbfgajcelhab
