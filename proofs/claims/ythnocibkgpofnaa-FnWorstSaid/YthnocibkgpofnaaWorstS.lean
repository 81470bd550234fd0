/-
  WorstCost of the specification.
-/
import Derived.Test.YthnocibkgpofnaaWorstI
import Derived.Test.YthnocibkgpofnaaImpl6
namespace Go.Proofs.Ythnocibkgpofnaa.I
open Go.RowKit Go.PlainAid
set_option linter.unusedVariables false

def TabN (rl : List (Int × Int)) (l : List Int) (N i : Nat) : Prop := l.length = N ∧ ∀ m (h : m < l.length), i ≤ m → l[m] = wst rl m
theorem tabN_start (rl : List (Int × Int)) (N n : Nat) (hl : rl.length = n) : TabN rl (List.replicate N 0) N n := by
  refine ⟨List.length_replicate, fun m h hm => ?_⟩
  rw [wst_end (by omega), List.getElem_replicate]
theorem tabN_step {rl : List (Int × Int)} {l : List Int} {N i : Nat} (h : TabN rl l N (i + 1)) (V : Int) (hV : V = wst rl i) : TabN rl (l.set i V) N i := by
  refine ⟨by rw [List.length_set]; exact h.1, fun m hm hi => ?_⟩
  rw [List.getElem_set]
  by_cases e : i = m
  · rw [if_pos e, hV, e]
  · rw [if_neg e]; exact h.2 m _ (by omega)
theorem costS' (op c : Int) (hc : costN op = c) (w : World) : Calls Try.prog 27 #[.int .i64 op] w fun e w' => e = .returned (.int .i64 c) ∧ w' = w := by
  subst hc; exact costS op w
theorem beh_zero (X Y : Int) : behN 0 X Y = 0 := rfl
theorem beh_nine (X Y : Int) : behN 9 X Y = Y := rfl
theorem beh_ten (X Y : Int) : behN 10 X Y = max X Y := rfl
theorem beh_not {op X Y : Int} (h0 : op ≠ 0) (h : ¬ goes op) : behN op X Y = X := by
  unfold behN
  rw [if_neg h0, if_neg (fun e => h (.inl e)), if_neg (fun e => h (.inr e))]

set_option maxRecDepth 100000 in
set_option maxHeartbeats 4000000 in
theorem worstS (a : Option Addr) (rl : List (Int × Int)) (n cap : Nat) (b : Bool) (R : Int) (hl : rl.length = n) (hn : n ≤ 1048576) (hb : b = true ↔ FwdR rl) (hR : (if b then wst rl 0 else 0) = R) (w : World) (hr : RdR w a rl) :
    Calls Try.prog 19 #[.slice a n cap] w fun e w' => e = .returned (.tuple #[.int .i64 R, .bool b]) ∧ Below w.heap.size w w' := by
  have HB : Hid (b = true ↔ FwdR rl) := hb
  have HL : Hid (rl.length = n) := hl
  have HR : Hid (RdR w a rl) := hr
  have HRR : Hid ((if b then wst rl 0 else 0) = R) := hR
  clear hb hl hr hR
  go_enter Try.func19, Try.ntmps19
  go_wp2_with fail
  refine (forwardS a rl n cap b HL.out (by omega) HB.out _ HR.out).mono ?_
  rintro e w1 ⟨rfl, hb1⟩
  have HW1 : Hid (Below w.heap.size w w1) := hb1
  clear hb1
  cases b
  · go_wp2
    refine bodyPost_ret (v := .tuple #[.int .i64 0, .bool false]) (by simp [results, Try.results19, go_sem]) rfl ⟨by rw [← HRR.out]; rfl, HW1.out⟩
  · have HF : Hid (FwdR rl) := HB.out.1 rfl
    have h60 : n ≤ 60 := by have := HF.out.1.1; have := HL.out; omega
    clear HB
    obtain ⟨N, hN⟩ : ∃ N : Nat, n + 1 = N := ⟨_, rfl⟩
    have hNi : (n : Int) + 1 = (N : Int) := by omega
    have hmk := run_make_row' (P := Try.prog) 23 3 (.int .i64 0) 8 Try.underlying23 info3 rfl .i64 .i64 N (by omega) (by omega)
    rw [made_ints] at hmk
    obtain ⟨K, hK⟩ : ∃ K, w1.heap.size = K := ⟨_, rfl⟩
    have HT0 : Hid (RowAt (w1.alloc (.cells (intsV (List.replicate N 0)).toArray 3)) K (List.replicate N 0)) := by rw [← hK]; exact heap_new w1 _
    have HW0 : Hid (Below w.heap.size w (w1.alloc (.cells (intsV (List.replicate N 0)).toArray 3))) := HW1.out.alloc HW1.out.size _
    have hKw : w.heap.size ≤ K := by rw [← hK]; exact HW1.out.size
    have hst : Hid (TabN rl (List.replicate N 0) N n) := tabN_start rl N n HL.out
    go_wp2
    go_loopg [5] n (fun gk iv wr => ∃ (l : List Int), gk ≤ n ∧ iv = .int .i64 ((gk : Int) - 1) ∧ Hid (RowAt wr K l) ∧ Hid (TabN rl l N gk) ∧ Hid (Below w.heap.size w wr))
    case atStart => exact ⟨List.replicate N 0, Nat.le_refl _, by go_num, HT0, hst, HW0⟩
    case round =>
      obtain ⟨l, hgk, rfl, HT, HI, HW⟩ := hrel
      clear HT0 HW0 hst hmk HW1
      cases gk with
      | succ i =>
        have hil : i < rl.length := by have := HL.out; omega
        obtain ⟨g, off, rfl, hc⟩ := HR.out (by omega)
        have hgl : g < w.heap.size := World.block_lt_of_cell? w ⟨g, off + 0 * 2, none⟩ (hc 0 (by omega)).1
        have c0 := hc i hil
        have c1 := (HW.out.cell (p := ⟨g, off + i * 2, none⟩) hgl).trans c0.1
        have c2 := (HW.out.cell (p := ⟨g, off + i * 2 + 1, none⟩) hgl).trans c0.2
        clear c0 hc
        obtain ⟨f, hf⟩ : ∃ f, rl[i].1 = f := ⟨_, rfl⟩
        obtain ⟨s, hs⟩ : ∃ s, rl[i].2 = s := ⟨_, rfl⟩
        have hs0 : 0 ≤ s := by rw [← hs]; exact (HF.out.1.2 i hil).2.1
        rw [hf] at c1
        rw [hs] at c2
        obtain ⟨c, hcc⟩ : ∃ c, costN f = c := ⟨_, rfl⟩
        have hcb := costN_bd f
        rw [hcc] at hcb
        have HC : Hid (costN f = c) := hcc
        have hii : ((i + 1 : Nat) : Int) - 1 = (i : Int) := by omega
        rw [hii]
        have hil1 : i < l.length := by rw [HI.out.1]; omega
        have hi61 : i + 1 < l.length := by rw [HI.out.1]; omega
        have HT1 : Hid (RowAt (wr.alloc (.cells #[.int .i64 f, .int .i64 s] 51)) K l) := HT.out.keep ((Below.refl wr.heap.size wr).alloc (Nat.le_refl _) _) HT.out.lt
        have HW1 : Hid (Below w.heap.size w (wr.alloc (.cells #[.int .i64 f, .int .i64 s] 51))) := HW.out.alloc HW.out.size _
        have HX1 : Hid ((wr.alloc (.cells #[.int .i64 f, .int .i64 s] 51)).heap[wr.heap.size]? = some (.cells #[.int .i64 f, .int .i64 s] 51)) := heap_new wr _
        obtain ⟨X, hX⟩ : ∃ X, wst rl (i + 1) = X := ⟨_, rfl⟩
        have hXb := wst_bd rl 60 (i + 1) (by have := HL.out; omega)
        rw [hX] at hXb
        have kX := HT1.out.cell (i + 1) hi61
        rw [HI.out.2 (i + 1) hi61 (Nat.le_refl _), hX] at kX
        have hWA : Hid (∀ Y, (goes f → Y = wst rl s.toNat) → wst rl i = c + behN f X Y) := fun Y hY => by
          rw [wst_at HF.out hil Y (fun h => by rw [hs]; exact hY (by rw [← hf]; exact h)), hf, hcc, hX]
        have hfs : Hid (goes f → (i : Int) < s) := fun h => by have := HF.out.2 i hil (by rw [hf]; exact h); rw [hs] at this; exact this
        have hi0 : (0 : Int) ≤ (i : Int) := by omega
        have hi1 : (i : Int) < (n : Int) := by omega
        obtain ⟨M, hM⟩ : ∃ M : Nat, i + 1 = M := ⟨_, rfl⟩
        have hMi : (i : Int) + 1 = (M : Int) := by omega
        have hM0 : (0 : Int) ≤ (M : Int) := by omega
        have hM1 : (M : Int) < (N : Int) := by omega
        rw [hM] at kX
        have hi3 : (i : Int) < (N : Int) := by omega
        clear HT HW hf hs hX hcc
        rcases op_ways f with rfl | rfl | rfl | ⟨g1, g2, g3⟩
        · have hng : ¬ goes 0 := fun h => by rcases h with h | h <;> cases h
          have HE : Hid (c = wst rl i) := by show c = _; rw [hWA.out 0 (fun h => absurd h hng), beh_zero]; omega
          have HI8 : Hid (TabN rl (l.set i (c)) N i) := tabN_step HI.out _ HE.out
          go_wp2_with fail
          refine (goesS 0 s false ⟨(fun h => by cases h), (fun h => absurd h hng)⟩ _).mono ?_
          rintro e w2 ⟨rfl, hb2⟩
          have HT2 : Hid (RowAt w2 K l) := HT1.out.keep hb2 HT1.out.lt
          have HW2 : Hid (Below w.heap.size w w2) := HW1.out.trans (hb2.mono HW1.out.size)
          have hx := row2_cells (row_on HX1.out hb2)
          have kf := HT2.out.free i
          have kc := HT2.out.cell i hil1
          have HT8 : Hid (RowAt (w2.setCell ⟨K, i, none⟩ (.int .i64 (c))) K (l.set i (c))) := HT2.out.set i (c)
          have HW8 : Hid (Below w.heap.size w (w2.setCell ⟨K, i, none⟩ (.int .i64 (c)))) := HW2.out.setCell (p := ⟨K, i, none⟩) hKw _
          clear hb2 HT1 HW1 HX1 HI HT2 HW2 kX
          go_wp2_with fail
          refine (costS' _ c HC.out _).mono ?_
          rintro e w3 ⟨rfl, rfl⟩
          go_wp2
          go_roundg i
          case measure => omega
          case rel => exact ⟨l.set i (c), by omega, by go_num, HT8, HI8, HW8⟩
        · by_cases hsn : s < (n : Int)
          · obtain ⟨sn, rfl⟩ := Int.eq_ofNat_of_zero_le hs0
            have hsl : sn < l.length := by rw [HI.out.1]; omega
            obtain ⟨Y, hY⟩ : ∃ Y, wst rl sn = Y := ⟨_, rfl⟩
            have hYb := wst_bd rl 60 sn (by have := HL.out; omega)
            rw [hY] at hYb
            have hYl : l[sn] = Y := by rw [← hY]; exact HI.out.2 sn hsl (by have := hfs.out (.inl rfl); omega)
            have HE : Hid (c + Y = wst rl i) := by show c + Y = _; rw [hWA.out Y (fun _ => hY.symm), beh_nine]
            have HI8 : Hid (TabN rl (l.set i (c + Y)) N i) := tabN_step HI.out _ HE.out
            go_wp2_with fail
            refine (goesS 9 (sn : Int) true ⟨(fun _ => by first | exact .inl rfl | exact .inr rfl), (fun _ => rfl)⟩ _).mono ?_
            rintro e w2 ⟨rfl, hb2⟩
            have HT2 : Hid (RowAt w2 K l) := HT1.out.keep hb2 HT1.out.lt
            have HW2 : Hid (Below w.heap.size w w2) := HW1.out.trans (hb2.mono HW1.out.size)
            have hx := row2_cells (row_on HX1.out hb2)
            have kf := HT2.out.free i
            have kc := HT2.out.cell i hil1
            have kY := HT2.out.cell sn hsl
            rw [hYl] at kY
            have HT8 : Hid (RowAt (w2.setCell ⟨K, i, none⟩ (.int .i64 (c + Y))) K (l.set i (c + Y))) := HT2.out.set i (c + Y)
            have HW8 : Hid (Below w.heap.size w (w2.setCell ⟨K, i, none⟩ (.int .i64 (c + Y)))) := HW2.out.setCell (p := ⟨K, i, none⟩) hKw _
            clear hb2 HT1 HW1 HX1 HI HT2 HW2 kX
            go_wp2_with fail
            refine (costS' _ c HC.out _).mono ?_
            rintro e w3 ⟨rfl, rfl⟩
            go_wp2
            go_roundg i
            case measure => omega
            case rel => exact ⟨l.set i (c + Y), by omega, by go_num, HT8, HI8, HW8⟩
          · have hz : wst rl s.toNat = 0 := wst_end (by have := HL.out; omega)
            have HE : Hid (c = wst rl i) := by show c = _; rw [hWA.out 0 (fun _ => hz.symm), beh_nine]; omega
            have HI8 : Hid (TabN rl (l.set i (c)) N i) := tabN_step HI.out _ HE.out
            go_wp2_with fail
            refine (goesS 9 s true ⟨(fun _ => by first | exact .inl rfl | exact .inr rfl), (fun _ => rfl)⟩ _).mono ?_
            rintro e w2 ⟨rfl, hb2⟩
            have HT2 : Hid (RowAt w2 K l) := HT1.out.keep hb2 HT1.out.lt
            have HW2 : Hid (Below w.heap.size w w2) := HW1.out.trans (hb2.mono HW1.out.size)
            have hx := row2_cells (row_on HX1.out hb2)
            have kf := HT2.out.free i
            have kc := HT2.out.cell i hil1
            have HT8 : Hid (RowAt (w2.setCell ⟨K, i, none⟩ (.int .i64 (c))) K (l.set i (c))) := HT2.out.set i (c)
            have HW8 : Hid (Below w.heap.size w (w2.setCell ⟨K, i, none⟩ (.int .i64 (c)))) := HW2.out.setCell (p := ⟨K, i, none⟩) hKw _
            clear hb2 HT1 HW1 HX1 HI HT2 HW2 kX
            go_wp2_with fail
            refine (costS' _ c HC.out _).mono ?_
            rintro e w3 ⟨rfl, rfl⟩
            go_wp2
            go_roundg i
            case measure => omega
            case rel => exact ⟨l.set i (c), by omega, by go_num, HT8, HI8, HW8⟩
        · by_cases hsn : s < (n : Int)
          · obtain ⟨sn, rfl⟩ := Int.eq_ofNat_of_zero_le hs0
            have hsl : sn < l.length := by rw [HI.out.1]; omega
            obtain ⟨Y, hY⟩ : ∃ Y, wst rl sn = Y := ⟨_, rfl⟩
            have hYb := wst_bd rl 60 sn (by have := HL.out; omega)
            rw [hY] at hYb
            have hYl : l[sn] = Y := by rw [← hY]; exact HI.out.2 sn hsl (by have := hfs.out (.inr rfl); omega)
            by_cases hxy : X < Y
            · have HE : Hid (c + Y = wst rl i) := by show c + Y = _; rw [hWA.out Y (fun _ => hY.symm), beh_ten]; omega
              have HI8 : Hid (TabN rl (l.set i (c + Y)) N i) := tabN_step HI.out _ HE.out
              go_wp2_with fail
              refine (goesS 10 (sn : Int) true ⟨(fun _ => by first | exact .inl rfl | exact .inr rfl), (fun _ => rfl)⟩ _).mono ?_
              rintro e w2 ⟨rfl, hb2⟩
              have HT2 : Hid (RowAt w2 K l) := HT1.out.keep hb2 HT1.out.lt
              have HW2 : Hid (Below w.heap.size w w2) := HW1.out.trans (hb2.mono HW1.out.size)
              have hx := row2_cells (row_on HX1.out hb2)
              have kf := HT2.out.free i
              have kc := HT2.out.cell i hil1
              have kY := HT2.out.cell sn hsl
              rw [hYl] at kY
              have HT8 : Hid (RowAt (w2.setCell ⟨K, i, none⟩ (.int .i64 (c + Y))) K (l.set i (c + Y))) := HT2.out.set i (c + Y)
              have HW8 : Hid (Below w.heap.size w (w2.setCell ⟨K, i, none⟩ (.int .i64 (c + Y)))) := HW2.out.setCell (p := ⟨K, i, none⟩) hKw _
              clear hb2 HT1 HW1 HX1 HI HT2 HW2 kX
              go_wp2_with fail
              refine (costS' _ c HC.out _).mono ?_
              rintro e w3 ⟨rfl, rfl⟩
              go_wp2
              go_roundg i
              case measure => omega
              case rel => exact ⟨l.set i (c + Y), by omega, by go_num, HT8, HI8, HW8⟩
            · have HE : Hid (c + X = wst rl i) := by show c + X = _; rw [hWA.out Y (fun _ => hY.symm), beh_ten]; omega
              have HI8 : Hid (TabN rl (l.set i (c + X)) N i) := tabN_step HI.out _ HE.out
              go_wp2_with fail
              refine (goesS 10 (sn : Int) true ⟨(fun _ => by first | exact .inl rfl | exact .inr rfl), (fun _ => rfl)⟩ _).mono ?_
              rintro e w2 ⟨rfl, hb2⟩
              have HT2 : Hid (RowAt w2 K l) := HT1.out.keep hb2 HT1.out.lt
              have HW2 : Hid (Below w.heap.size w w2) := HW1.out.trans (hb2.mono HW1.out.size)
              have hx := row2_cells (row_on HX1.out hb2)
              have kf := HT2.out.free i
              have kc := HT2.out.cell i hil1
              have kY := HT2.out.cell sn hsl
              rw [hYl] at kY
              have HT8 : Hid (RowAt (w2.setCell ⟨K, i, none⟩ (.int .i64 (c + X))) K (l.set i (c + X))) := HT2.out.set i (c + X)
              have HW8 : Hid (Below w.heap.size w (w2.setCell ⟨K, i, none⟩ (.int .i64 (c + X)))) := HW2.out.setCell (p := ⟨K, i, none⟩) hKw _
              clear hb2 HT1 HW1 HX1 HI HT2 HW2 kX
              go_wp2_with fail
              refine (costS' _ c HC.out _).mono ?_
              rintro e w3 ⟨rfl, rfl⟩
              go_wp2
              go_roundg i
              case measure => omega
              case rel => exact ⟨l.set i (c + X), by omega, by go_num, HT8, HI8, HW8⟩
          · have hz : wst rl s.toNat = 0 := wst_end (by have := HL.out; omega)
            have HE : Hid (c + X = wst rl i) := by show c + X = _; rw [hWA.out 0 (fun _ => hz.symm), beh_ten]; omega
            have HI8 : Hid (TabN rl (l.set i (c + X)) N i) := tabN_step HI.out _ HE.out
            go_wp2_with fail
            refine (goesS 10 s true ⟨(fun _ => by first | exact .inl rfl | exact .inr rfl), (fun _ => rfl)⟩ _).mono ?_
            rintro e w2 ⟨rfl, hb2⟩
            have HT2 : Hid (RowAt w2 K l) := HT1.out.keep hb2 HT1.out.lt
            have HW2 : Hid (Below w.heap.size w w2) := HW1.out.trans (hb2.mono HW1.out.size)
            have hx := row2_cells (row_on HX1.out hb2)
            have kf := HT2.out.free i
            have kc := HT2.out.cell i hil1
            have HT8 : Hid (RowAt (w2.setCell ⟨K, i, none⟩ (.int .i64 (c + X))) K (l.set i (c + X))) := HT2.out.set i (c + X)
            have HW8 : Hid (Below w.heap.size w (w2.setCell ⟨K, i, none⟩ (.int .i64 (c + X)))) := HW2.out.setCell (p := ⟨K, i, none⟩) hKw _
            clear hb2 HT1 HW1 HX1 HI HT2 HW2 kX
            go_wp2_with fail
            refine (costS' _ c HC.out _).mono ?_
            rintro e w3 ⟨rfl, rfl⟩
            go_wp2
            go_roundg i
            case measure => omega
            case rel => exact ⟨l.set i (c + X), by omega, by go_num, HT8, HI8, HW8⟩
        · have hng : ¬ goes f := fun h => by rcases h with rfl | rfl
                                             · simp at g2
                                             · simp at g3
          have hn0 : f ≠ 0 := by simpa using g1
          have HE : Hid (c + X = wst rl i) := by show c + X = _; rw [hWA.out 0 (fun h => absurd h hng), beh_not hn0 hng]
          have HI8 : Hid (TabN rl (l.set i (c + X)) N i) := tabN_step HI.out _ HE.out
          go_wp2_with fail
          refine (goesS f s false ⟨(fun h => by cases h), (fun h => absurd h hng)⟩ _).mono ?_
          rintro e w2 ⟨rfl, hb2⟩
          have HT2 : Hid (RowAt w2 K l) := HT1.out.keep hb2 HT1.out.lt
          have HW2 : Hid (Below w.heap.size w w2) := HW1.out.trans (hb2.mono HW1.out.size)
          have hx := row2_cells (row_on HX1.out hb2)
          have kf := HT2.out.free i
          have kc := HT2.out.cell i hil1
          have HT8 : Hid (RowAt (w2.setCell ⟨K, i, none⟩ (.int .i64 (c + X))) K (l.set i (c + X))) := HT2.out.set i (c + X)
          have HW8 : Hid (Below w.heap.size w (w2.setCell ⟨K, i, none⟩ (.int .i64 (c + X)))) := HW2.out.setCell (p := ⟨K, i, none⟩) hKw _
          clear hb2 HT1 HW1 HX1 HI HT2 HW2 kX
          go_wp2_with fail
          refine (costS' _ c HC.out _).mono ?_
          rintro e w3 ⟨rfl, rfl⟩
          go_wp2
          go_roundg i
          case measure => omega
          case rel => exact ⟨l.set i (c + X), by omega, by go_num, HT8, HI8, HW8⟩
      | zero =>
        have h61 : 0 < l.length := by have := HI.out.1; omega
        have c0 : wr.cell? ⟨K, 0, none⟩ = some (.int .i64 R) := by
          rw [HT.out.cell 0 h61, HI.out.2 0 h61 (Nat.le_refl _), ← HRR.out]; rfl
        have hN0 : (0 : Int) < (N : Int) := by omega
        go_wp2
        refine bodyPost_ret (v := .tuple #[.int .i64 R, .bool true]) (by simp [results, Try.results19, go_sem]) rfl ⟨rfl, HW.out⟩
end Go.Proofs.Ythnocibkgpofnaa.I
