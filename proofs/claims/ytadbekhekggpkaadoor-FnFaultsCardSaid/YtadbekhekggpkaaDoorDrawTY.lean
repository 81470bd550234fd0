/-
  A drawn set-up: the contract of the specification's draw.
-/
import Derived.Test.YtadbekhekggpkaaDoorDrawSY
namespace Go.Proofs.YtadbekhekggpkaaDoor
open Go.RowKit Go.PlainAid
set_option linter.unusedVariables false

theorem five_cell (wr : World) (x y z u v : Value) (t : TypeId) (a : Addr) (ha : a = ⟨wr.heap.size, 0, none⟩) : ∀ j c, [x, y, z, u, v][j]? = some c → (wr.alloc (.cells #[x, y, z, u, v] t)).cell? (a.add j) = some c := by
  intro j c hj
  subst ha
  match j, hj with
  | 0, hj => simp at hj; subst hj; simp [Addr.add]
  | 1, hj => simp at hj; subst hj; simp [Addr.add]
  | 2, hj => simp at hj; subst hj; simp [Addr.add]
  | 3, hj => simp at hj; subst hj; simp [Addr.add]
  | 4, hj => simp at hj; subst hj; simp [Addr.add]
theorem one_cellS (wr : World) (x : Value) (t : TypeId) (a : Addr) (ha : a = ⟨wr.heap.size, 0, none⟩) : ∀ j c, [x][j]? = some c → (wr.alloc (.cells #[x] t)).cell? (a.add j) = some c := by
  intro j c hj
  subst ha
  match j, hj with
  | 0, hj => simp at hj; subst hj; simp [Addr.add]

theorem own_set5 {W : World} {B t z n k : Nat} {v a b c d e : Value} {xs : List Value} (h : W.ownsRow B t z v n xs) (hk : v.ownBlock ≠ some k) : (((((W.setCell ⟨k, 0, none⟩ a).setCell ⟨k, 1, none⟩ b).setCell ⟨k, 2, none⟩ c).setCell ⟨k, 3, none⟩ d).setCell ⟨k, 4, none⟩ e).ownsRow B t z v n xs :=
  own_set (own_set (own_set (own_set (own_set h hk) hk) hk) hk) hk
theorem drawn_put5 {w W : World} {C B : Nat} {ad : Option Addr} {len cap : Nat} {a b c d e : Value} (h : Drawn w W C B ad len cap) (hC : C < w.heap.size) (hB : B ≤ C) : Drawn w (((((W.setCell ⟨w.heap.size, 0, none⟩ a).setCell ⟨w.heap.size, 1, none⟩ b).setCell ⟨w.heap.size, 2, none⟩ c).setCell ⟨w.heap.size, 3, none⟩ d).setCell ⟨w.heap.size, 4, none⟩ e) C B ad len cap :=
  P.drawn_put (P.drawn_put (P.drawn_put (P.drawn_put (P.drawn_put h 0 _ (Nat.le_refl _) hC hB) 1 _ (Nat.le_refl _) hC hB) 2 _ (Nat.le_refl _) hC hB) 3 _ (Nat.le_refl _) hC hB) 4 _ (Nat.le_refl _) hC hB

/-- right ports of so many parts -/
def PrtsOf (n : Nat) (l : List Prt) : Prop := ∀ p ∈ l, prtR p ∧ p.2.1 ≤ (n : Int) ∧ p.2.2.1 ≤ (n : Int)
theorem prtsOf_add {n : Nat} {l : List Prt} {k f t m fr : Int} (h : PrtsOf n l) (hr : P.PortR k f t m fr) (hf : f ≤ (n : Int)) (ht : t ≤ (n : Int)) : PrtsOf n (l ++ [(k, f, t, m, fr)]) := fun p hp => by
  rcases List.mem_append.1 hp with hp | hp
  · exact h p hp
  · rw [List.mem_singleton.1 hp]
    exact ⟨hr, hf, ht⟩
theorem strV_snoc (l : List ByteArray) (x : ByteArray) : S.strV (l ++ [x]) = S.strV l ++ [.string x] := by simp [S.strV]
theorem own_capY {W : World} {B T z n cp : Nat} {q : Option Addr} {xs : List Value} (h : W.ownsRow B T z (.slice q n cp) n xs) : n ≤ cp := by
  rcases h.2 with ⟨e, e'⟩ | ⟨g, cap, cur, e, _, _, hnc, _⟩
  · cases e; omega
  · cases e; exact hnc
theorem ct_ok (xs : List (Int × Int)) (b : Bool) (h : xs.length ≤ 46) : ∃ tx, I.ctV xs b = .tuple #[.string tx, .bool b] ∧ I.RcOk tx := by
  cases b
  · exact ⟨_, rfl, by decide, by decide⟩
  · have hz : (⟨(I.codeB xs).toArray⟩ : ByteArray).size = 2 * xs.length := by
      show (I.codeB xs).toArray.size = _
      rw [List.size_toArray, I.codeB_len]
    exact ⟨_, rfl, by rw [hz]; omega, by rw [hz]; omega⟩
set_option maxRecDepth 100000 in
set_option maxHeartbeats 8000000 in
theorem setupD (C B : Nat) (a : Option Addr) (len cap : Nat) (w : World) (hC : Cur w C a len cap) (hB : B ≤ C) (hcode : CodeOk w B a len) :
    Calls Tryd.prog 15 #[.pointer (some ⟨C, 0, none⟩)] w fun e w' => ∃ (s : SH) (X : SX), e = .returned (SetV s) ∧ RightX X ∧ (1 ≤ X.W.length ∧ X.W.length ≤ 5) ∧ X.O.length ≤ 3 ∧ s.n0 ≤ s.c0 ∧ OwnX w' w.heap.size s X ∧ Drawn w w' C B a len cap := by
  have hlt := cur_lt hC
  have HD0 : Hid (Drawn w (w.alloc (.cells #[nilV, nilV, nilV, nilV, nilV] 30)) C B a len cap) := drawn_alloc ⟨hC, hcode, World.grownBy.refl _ _⟩ (by omega) _
  have HZ0 : Hid ((w.alloc (.cells #[nilV, nilV, nilV, nilV, nilV] 30)).heap[w.heap.size]? = some (.cells #[nilV, nilV, nilV, nilV, nilV] 30)) := heap_new w _
  clear hC hcode
  go_enter Tryd.func15, Tryd.ntmps15
  go_wp2_with fail
  refine (R.regions C B a len cap _ HD0.out.1 hB HD0.out.2.1).mono ?_
  rintro e w1 ⟨v0, rl, rfl, hrl, hown0, hD⟩
  have HD1 : Hid (Drawn w w1 C B a len cap) := drawn_trans HD0.out hD
  have HZ1 : Hid (w1.heap[w.heap.size]? = some (.cells #[nilV, nilV, nilV, nilV, nilV] 30)) := P.row_drawn HZ0.out hD.2.2 (by omega)
  have HO0 : Hid (w1.ownsRow w.heap.size 85 2 v0 rl.length (R.regsV rl)) := own_mono hown0 (by simp)
  have HRL : Hid (R.RegsOk rl) := hrl
  obtain ⟨q0, c0, hv0⟩ := own_shapeW hown0
  subst hv0
  obtain ⟨n, hn⟩ : ∃ n, rl.length = n := ⟨_, rfl⟩
  have hn1 : 1 ≤ n ∧ n ≤ 4 := by rw [← hn]; exact ⟨hrl.1, hrl.2.1⟩
  have HN : Hid (rl.length = n) := hn
  rw [hn] at HO0 ⊢
  clear hD HD0 HZ0 hrl hown0 hn
  have s1 := row_lt HZ1.out
  have HS1 : Hid (SU w (w1.alloc (.cells #[.slice q0 n c0, nilV, nilV, nilV, nilV] 30)) C B a len cap w1.heap.size (.slice q0 n c0) nilV nilV nilV nilV n 0 0 0 0 (R.regsV rl) [] [] [] []) :=
    ⟨drawn_alloc HD1.out (by omega) _, row_on HZ1.out ((Below.refl _ _).alloc (Nat.le_refl _) _), heap_new w1 _, HO0.out.alloc _, World.ownsRow_nil _ _ _ _, World.ownsRow_nil _ _ _ _, World.ownsRow_nil _ _ _ _, World.ownsRow_nil _ _ _ _, hlt, hB, s1⟩
  clear HD1 HZ1 HO0
  obtain ⟨kS, hkS⟩ : ∃ kS, w1.heap.size = kS := ⟨_, rfl⟩
  go_wp2_with fail
  rw [hkS] at HS1
  refine (planD C B a len cap n (by omega) (by omega) _ HS1.out.d.1 hB HS1.out.d.2.1).mono ?_
  rintro e w2 ⟨v1, pl, rfl, hpl, hpw, hown1, hD⟩
  have HS2 : Hid (SU w w2 C B a len cap kS (.slice q0 n c0) nilV nilV nilV nilV n 0 0 0 0 (R.regsV rl) [] [] [] []) := HS1.out.on hD
  have HO1 : Hid (w2.ownsRow w.heap.size 37 2 v1 pl.length (regsV pl)) := own_mono hown1 (by have := HS1.out.d.2.2.size; omega)
  have HPL : Hid ((1 ≤ pl.length ∧ pl.length ≤ 5) ∧ WinsOf n pl) := ⟨hpl, hpw⟩
  obtain ⟨q1, c1, hv1⟩ := own_shapeW hown1
  subst hv1
  obtain ⟨m1, hm1⟩ : ∃ m1, pl.length = m1 := ⟨_, rfl⟩
  have HM1 : Hid (pl.length = m1) := hm1
  rw [hm1] at HO1 ⊢
  clear hD HS1 hpl hpw hown1 hm1
  have k2 := HS2.out.cells
  have HS3 : Hid (SU w (w2.setCell ⟨kS, 1, none⟩ (.slice q1 m1 c1)) C B a len cap kS (.slice q0 n c0) (.slice q1 m1 c1) nilV nilV nilV n m1 0 0 0 (R.regsV rl) (regsV pl) [] [] []) :=
    HS2.out.st (P.set1_row HS2.out.s) HS2.out.o0 HO1.out HS2.out.o2 HS2.out.o3 HS2.out.o4
  clear HO1
  go_wp2_with fail
  clear k2
  refine (rulesD C B a len cap n (by omega) (by omega) _ HS3.out.d.1 hB HS3.out.d.2.1).mono ?_
  rintro e w4 ⟨v3, m3, us, rfl, hus, huo, hown3, hD⟩
  have HS4 : Hid (SU w w4 C B a len cap kS (.slice q0 n c0) (.slice q1 m1 c1) nilV nilV nilV n m1 0 0 0 (R.regsV rl) (regsV pl) [] [] []) := HS3.out.on hD
  have HO3 : Hid (w4.ownsRow w.heap.size 33 3 v3 m3 (rulV us)) := own_mono hown3 (by have := HS3.out.d.2.2.size; omega)
  have HUS : Hid (RulesR us ∧ RulesOf n us ∧ us.length = m3) := ⟨hus, huo, OwnU.len hown3⟩
  obtain ⟨q3, c3, hv3⟩ := own_shapeW hown3
  subst hv3
  clear hD HS3 HS2 hus huo hown3
  have k4 := HS4.out.cells
  have HS5 : Hid (SU w (w4.setCell ⟨kS, 3, none⟩ (.slice q3 m3 c3)) C B a len cap kS (.slice q0 n c0) (.slice q1 m1 c1) nilV (.slice q3 m3 c3) nilV n m1 0 m3 0 (R.regsV rl) (regsV pl) [] (rulV us) []) :=
    HS4.out.st (P.set1_row HS4.out.s) HS4.out.o0 HS4.out.o1 HS4.out.o2 HO3.out HS4.out.o4
  clear HO3
  go_wp2
  clear k4 HS4
  go_loopg [5] 3 (fun gk iv wr => ∃ (i n2 c2 : Nat) (q2 : Option Addr) (ol : List Prt), i + gk = 3 ∧ iv = .int .i64 i ∧ n2 ≤ i ∧ Hid (ol.length = n2 ∧ PrtsOf n ol) ∧ Hid (SU w wr C B a len cap kS (.slice q0 n c0) (.slice q1 m1 c1) (.slice q2 n2 c2) (.slice q3 m3 c3) nilV n m1 n2 m3 0 (R.regsV rl) (regsV pl) (prtV ol) (rulV us) []))
  case atStart => exact ⟨0, 0, 0, none, [], by omega, rfl, by omega, ⟨rfl, fun p h => by cases h⟩, HS5⟩
  case round =>
    clear HS5
    obtain ⟨i, n2, c2, q2, ol, hi3, rfl, hn2, HOL, HS⟩ := hrel
    go_wp2_with fail
    refine (below28 C B a len cap 4 (by omega) (by omega) _ HS.out.d.1 hB HS.out.d.2.1).mono ?_
    rintro e w6 ⟨x, rfl, x0, x1, hD⟩
    have HS6 : Hid (SU w w6 C B a len cap kS (.slice q0 n c0) (.slice q1 m1 c1) (.slice q2 n2 c2) (.slice q3 m3 c3) nilV n m1 n2 m3 0 (R.regsV rl) (regsV pl) (prtV ol) (rulV us) []) := HS.out.on hD
    clear hD HS
    by_cases hx : (i : Int) < x
    · go_wp2_with fail
      refine (P.portD C B a len cap _ HS6.out.d.1 hB HS6.out.d.2.1).mono ?_
      rintro e w7 ⟨k, f, t, m, fr, rfl, hpr, hD⟩
      have HPR : Hid (P.PortR k f t m fr) := hpr
      clear hpr
      have HS7 : Hid (SU w w7 C B a len cap kS (.slice q0 n c0) (.slice q1 m1 c1) (.slice q2 n2 c2) (.slice q3 m3 c3) nilV n m1 n2 m3 0 (R.regsV rl) (regsV pl) (prtV ol) (rulV us) []) := HS6.out.on hD
      clear hD HS6
      have HS8 : Hid (SU w (w7.alloc (.cells #[.int .i64 k, .int .i64 f, .int .i64 t, .int .i64 m, .int .i64 fr] 35)) C B a len cap kS (.slice q0 n c0) (.slice q1 m1 c1) (.slice q2 n2 c2) (.slice q3 m3 c3) nilV n m1 n2 m3 0 (R.regsV rl) (regsV pl) (prtV ol) (rulV us) []) := HS7.out.al _
      have HK8 : Hid ((w7.alloc (.cells #[.int .i64 k, .int .i64 f, .int .i64 t, .int .i64 m, .int .i64 fr] 35)).heap[w7.heap.size]? = some (.cells #[.int .i64 k, .int .i64 f, .int .i64 t, .int .i64 m, .int .i64 fr] 35)) := heap_new w7 _
      clear HS7
      by_cases hf : f ≤ (n : Int)
      · by_cases ht : t ≤ (n : Int)
        · have k8 := HS8.out.cells
          have p8 := P.box5_cells HK8.out
          have HS9 : Hid (SU w ((w7.alloc (.cells #[.int .i64 k, .int .i64 f, .int .i64 t, .int .i64 m, .int .i64 fr] 35)).alloc (.cells #[.int .i64 k, .int .i64 f, .int .i64 t, .int .i64 m, .int .i64 fr] 35)) C B a len cap kS (.slice q0 n c0) (.slice q1 m1 c1) (.slice q2 n2 c2) (.slice q3 m3 c3) nilV n m1 n2 m3 0 (R.regsV rl) (regsV pl) (prtV ol) (rulV us) []) := HS8.out.al _
          have hown := HS9.out.o2
          obtain ⟨i0, hi, hz0, hz1, hz2⟩ := info_parts infoP5
          have s9 := HS9.out.d.2.2.size
          have HF : Hid (_ ∧ _) := (⟨HS9.out.far, trivial⟩ : _ ∧ True)
          go_wp2_with (at_builtin; refine wpList_append_own _ rfl _ _ 26 rfl w.heap.size 35 i0 (.agg #[.int .i64 0, .int .i64 0, .int .i64 0, .int .i64 0, .int .i64 0]) 5 40 Tryd.underlying26 hi hz0 hz1 hz2 rfl (by decide) _ _ _ rfl hown ⟨w7.heap.size + 1, 0, none⟩ 1 1 [.int .i64 k, .int .i64 f, .int .i64 t, .int .i64 m, .int .i64 fr] rfl rfl ?c1 ?c2 ?c3 ?c4 ?c5 ?_)
          case c1 => exact five_cell _ _ _ _ _ _ _ _ (by simp)
          case c2 => intro u hu; simp at hu; rcases hu with rfl | rfl | rfl | rfl | rfl <;> rfl
          case c3 => unfold maxLen; omega
          case c4 => omega
          case c5 => exact s9
          intro v' w9 hown9 hgrow _
          obtain ⟨q', c', hv⟩ := own_shapeW hown9
          subst hv
          have HSa : Hid (SU w (w9.setCell ⟨kS, 2, none⟩ (.slice q' (n2 + 1) c')) C B a len cap kS (.slice q0 n c0) (.slice q1 m1 c1) (.slice q' (n2 + 1) c') (.slice q3 m3 c3) nilV n m1 (n2 + 1) m3 0 (R.regsV rl) (regsV pl) (prtV (ol ++ [(k, f, t, m, fr)])) (rulV us) []) := by
            show SU _ _ _ _ _ _ _ _ _ _ _ _ _ _ _ _ _ _ _ _ _ _ _
            rw [prtV_append]
            exact HS9.out.app2 hgrow hown9
          have HOL2 : Hid ((ol ++ [(k, f, t, m, fr)]).length = n2 + 1 ∧ PrtsOf n (ol ++ [(k, f, t, m, fr)])) := ⟨by rw [List.length_append, HOL.out.1]; rfl, prtsOf_add HOL.out.2 HPR.out hf ht⟩
          have ka := P.box5_cells (HS9.out.gr (t := 0) hgrow (fun b hb => ⟨own_ge HS9.out.o2 b hb, fun e => own_far HS9.out.o2 HS9.out.z (by decide) (by rw [← e]; exact hb), fun e => HS9.out.far.2.2.1 (by rw [← e]; exact hb)⟩)).2.2
          clear k8 p8 hown hown9 hgrow HS9 HS8 HK8 HF s9
          go_wp2
          clear ka
          go_roundg (gk - 1)
          case measure => omega
          case rel => exact ⟨i + 1, n2 + 1, c', q', ol ++ [(k, f, t, m, fr)], by omega, by go_num, by omega, HOL2, HSa⟩
        · have p8 := P.box5_cells HK8.out
          go_wp2
          clear p8
          go_roundg (gk - 1)
          case measure => omega
          case rel => exact ⟨i + 1, n2, c2, q2, ol, by omega, by go_num, by omega, HOL, HS8⟩
      · have p8 := P.box5_cells HK8.out
        go_wp2
        clear p8
        go_roundg (gk - 1)
        case measure => omega
        case rel => exact ⟨i + 1, n2, c2, q2, ol, by omega, by go_num, by omega, HOL, HS8⟩
    · go_wp2
      go_loopg [7] n (fun gk iv wr => ∃ (j n4 c4 : Nat) (q4 : Option Addr) (sl : List ByteArray), j + gk = n ∧ iv = .int .i64 j ∧ n4 = j ∧ Hid (sl.length = n4 ∧ ∀ x ∈ sl, I.RcOk x) ∧ Hid (SU w wr C B a len cap kS (.slice q0 n c0) (.slice q1 m1 c1) (.slice q2 n2 c2) (.slice q3 m3 c3) (.slice q4 n4 c4) n m1 n2 m3 n4 (R.regsV rl) (regsV pl) (prtV ol) (rulV us) (S.strV sl)))
      case atStart => exact ⟨0, 0, 0, none, [], by omega, rfl, by omega, ⟨rfl, fun x h => by cases h⟩, HS6⟩
      case round =>
        clear HS6
        obtain ⟨j, n4, c4, q4, sl, hj, rfl, hn4, HSL, HS⟩ := hrel
        subst hn4
        by_cases hlj : n4 < n
        · go_wp2_with fail
          refine (I.codeD C B a len cap _ HS.out.d.1 hB HS.out.d.2.1).mono ?_
          rintro e w10 ⟨vc, xs, rfl, hxs, _, hownc, hD⟩
          have HXS : Hid (xs.length ≤ 46) := hxs
          have HS10 : Hid (SU w w10 C B a len cap kS (.slice q0 n c0) (.slice q1 m1 c1) (.slice q2 n2 c2) (.slice q3 m3 c3) (.slice q4 n4 c4) n m1 n2 m3 n4 (R.regsV rl) (regsV pl) (prtV ol) (rulV us) (S.strV sl)) := HS.out.on hD
          obtain ⟨qc, cc, hvc, hrd⟩ := hownc.rd
          subst hvc
          obtain ⟨bc, hbc⟩ := I.code_bool xs
          have HRD : Hid (I.RdR w10 qc xs) := hrd
          have HBC : Hid (bc = true ↔ I.CodeR xs) := hbc
          obtain ⟨nx, hnx⟩ : ∃ nx, xs.length = nx := ⟨_, rfl⟩
          have HNX : Hid (xs.length = nx) := hnx
          rw [hnx] at hxs ⊢
          clear hD HS hrd hbc hownc hnx
          go_wp2_with fail
          refine (I.codetextS qc xs nx cc bc HNX.out (by omega) HBC.out _ HRD.out).mono ?_
          rintro e w11 ⟨rfl, hb11⟩
          have HS11 : Hid (SU w w11 C B a len cap kS (.slice q0 n c0) (.slice q1 m1 c1) (.slice q2 n2 c2) (.slice q3 m3 c3) (.slice q4 n4 c4) n m1 n2 m3 n4 (R.regsV rl) (regsV pl) (prtV ol) (rulV us) (S.strV sl)) := HS10.out.bel hb11
          clear hb11 HS10 HRD HBC
          obtain ⟨tx, hct, htx⟩ : ∃ tx, I.ctV xs bc = .tuple #[.string tx, .bool bc] ∧ I.RcOk tx := ct_ok xs bc HXS.out
          have HTX : Hid (I.RcOk tx) := htx
          clear htx
          rw [hct]
          clear hct
          have k11 := HS11.out.cells
          have HS12 : Hid (SU w (w11.alloc (.cells #[.string tx] 9)) C B a len cap kS (.slice q0 n c0) (.slice q1 m1 c1) (.slice q2 n2 c2) (.slice q3 m3 c3) (.slice q4 n4 c4) n m1 n2 m3 n4 (R.regsV rl) (regsV pl) (prtV ol) (rulV us) (S.strV sl)) := HS11.out.al _
          have hown := HS12.out.o4
          obtain ⟨i0, hi, hz0, hz1, hz2⟩ := info_parts infoStr
          have s12 := HS12.out.d.2.2.size
          go_wp2_with (at_builtin; refine wpList_append_own _ rfl _ _ 28 rfl w.heap.size 9 i0 (.string ⟨#[]⟩) 1 16 Tryd.underlying28 hi hz0 hz1 hz2 rfl (by decide) _ _ _ rfl hown ⟨w11.heap.size, 0, none⟩ 1 1 [.string tx] rfl rfl ?c1 ?c2 ?c3 ?c4 ?c5 ?_)
          case c1 => exact one_cellS _ _ _ _ (by simp)
          case c2 => intro u hu; simp at hu; subst hu; rfl
          case c3 => unfold maxLen; omega
          case c4 => omega
          case c5 => exact s12
          intro v' w13 hown13 hgrow _
          obtain ⟨q', c', hv⟩ := own_shapeW hown13
          subst hv
          have HSa : Hid (SU w (w13.setCell ⟨kS, 4, none⟩ (.slice q' (n4 + 1) c')) C B a len cap kS (.slice q0 n c0) (.slice q1 m1 c1) (.slice q2 n2 c2) (.slice q3 m3 c3) (.slice q' (n4 + 1) c') n m1 n2 m3 (n4 + 1) (R.regsV rl) (regsV pl) (prtV ol) (rulV us) (S.strV (sl ++ [tx]))) := by
            show SU _ _ _ _ _ _ _ _ _ _ _ _ _ _ _ _ _ _ _ _ _ _ _
            rw [strV_snoc]
            exact HS12.out.app4 hgrow hown13
          have HSL2 : Hid ((sl ++ [tx]).length = n4 + 1 ∧ ∀ x ∈ sl ++ [tx], I.RcOk x) := ⟨by rw [List.length_append, HSL.out.1]; rfl, fun x hx => by
            rcases List.mem_append.1 hx with hx | hx
            · exact HSL.out.2 x hx
            · rw [List.mem_singleton.1 hx]; exact HTX.out⟩
          have ka := P.box5_cells (HS12.out.gr (t := 0) hgrow (fun b hb => ⟨own_ge HS12.out.o4 b hb, fun e => own_far HS12.out.o4 HS12.out.z (by decide) (by rw [← e]; exact hb), fun e => HS12.out.far.2.2.2.2 (by rw [← e]; exact hb)⟩)).2.2
          clear k11 hown hown13 hgrow HS12 HS11 s12
          go_wp2
          clear ka
          go_roundg (gk - 1)
          case measure => omega
          case rel => exact ⟨n4 + 1, n4 + 1, c', q', sl ++ [tx], by omega, by go_num, rfl, HSL2, HSa⟩
        · have k14 := HS.out.cells
          have kz := P.box5_cells HS.out.z
          go_wp2
          have hjn : n4 = n := by omega
          have HXR : Hid (RightX ⟨rl, pl, ol, us, sl⟩) := by
            have hl := HN.out
            refine ⟨HRL.out, winsOf_plan HPL.out.2 (by omega) HPL.out.1.1 (Nat.le_trans HPL.out.1.2 (by decide)), ⟨by rw [HOL.out.1]; omega, fun i h => (HOL.out.2 _ (List.getElem_mem h)).1⟩, HUS.out.1, ⟨by rw [HSL.out.1, hjn, HN.out], fun i h => HSL.out.2 _ (List.getElem_mem h)⟩, ?_, ?_, ?_⟩
            · intro i h
              have := (HPL.out.2 _ (List.getElem_mem h)).1
              show _ ≤ ((rl.length : Nat) : Int)
              rw [HN.out]
              omega
            · intro i h
              have := (HOL.out.2 _ (List.getElem_mem h)).2
              show _ ≤ ((rl.length : Nat) : Int) ∧ _ ≤ ((rl.length : Nat) : Int)
              rw [HN.out]
              exact this
            · intro i h
              have := HUS.out.2.1 _ (List.getElem_mem h)
              show _ ≤ ((rl.length : Nat) : Int)
              rw [HN.out]
              exact this
          refine bodyPost_ret (v := .agg #[.slice q0 n c0, .slice q1 m1 c1, .slice q2 n2 c2, .slice q3 m3 c3, .slice q4 n4 c4]) (by simp [results, Tryd.results15, go_sem, kz]) rfl ⟨⟨q0, n, c0, q1, m1, c1, q2, n2, c2, q3, m3, c3, q4, n4, c4⟩, ⟨rl, pl, ol, us, sl⟩, rfl, HXR.out, HPL.out.1, by rw [HOL.out.1]; omega, own_capY HS.out.o0, ⟨?_, ?_, ?_, ?_, ?_⟩, drawn_put5 HS.out.d hlt hB⟩
          · exact own_set5 HS.out.o0 (own_far HS.out.o0 HS.out.z (by decide))
          · exact own_set5 HS.out.o1 (own_far HS.out.o1 HS.out.z (by decide))
          · exact own_set5 HS.out.o2 (own_far HS.out.o2 HS.out.z (by decide))
          · exact own_set5 HS.out.o3 (own_far HS.out.o3 HS.out.z (by decide))
          · exact own_set5 HS.out.o4 (own_far HS.out.o4 HS.out.z (by decide))
end Go.Proofs.YtadbekhekggpkaaDoor
