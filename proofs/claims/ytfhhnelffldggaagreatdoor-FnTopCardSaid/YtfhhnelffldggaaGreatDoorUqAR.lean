/-
  Drawn orders, right or not, and texts of orders, spoilt or not: the contracts of the specification's draws.
-/
import Derived.Test.YtfhhnelffldggaaGreatDoorUqAM
import Derived.Test.YtfhhnelffldggaaGreatDoorUqAO
import Derived.Test.YtfhhnelffldggaaGreatDoorUqAQ
set_option maxRecDepth 100000
set_option maxHeartbeats 16000000
namespace Go.Proofs.YtfhhnelffldggaaGreatDoor.I
open Go.RowKit Go.PlainAid
set_option linter.unusedVariables false
set_option linter.unusedSimpArgs false
theorem DOr.al {w W : World} {C B : Nat} {a : Option Addr} {len cap k : Nat} {x y z u : Int} (h : DOr w W C B a len cap k x y z u) (o : Obj) : DOr w (W.alloc o) C B a len cap k x y z u := by
 obtain ⟨h1, h2, h3, h4, h5, h6⟩ := h
 have hs := h1.2.2.size
 exact ⟨drawn_alloc h1 (by omega) _, (Below.heap_alloc _ _ _ (row_lt h2)).trans h2, (Below.heap_alloc _ _ _ (row_lt h3)).trans h3, h4, h5, h6⟩
theorem laid_ints (w : World) (l : List Int) (j : Nat) (hj : j < l.length) : (w.alloc (.cells (l.map (Value.int .i64)).toArray 3)).cell? ⟨w.heap.size, j, none⟩ = some (.int .i64 l[j]) := by
 unfold World.cell? World.alloc
 simp [hj]
theorem text_any (k n d v : Int) (w : World) : Calls Tryz.prog 105 #[ordV k n d v] w fun e w' => ∃ (t : ByteArray) (b : Bool), e = .returned (.tuple #[.string t, .bool b]) ∧ t.size ≤ 20 ∧ Below w.heap.size w w' := by
 by_cases hR : OrdR k n d v
 ·
  refine (textS k n d v hR w).mono ?_
  rintro e w' ⟨rfl, hb⟩
  have h := ordB_small hR
  exact ⟨_, _, rfl, by unfold ordT; rw [ByteArray.size_append, Q.sigil_size]; omega, hb⟩
 ·
  refine (textNo k n d v hR w).mono ?_
  rintro e w' ⟨rfl, hb⟩
  exact ⟨_, _, rfl, by decide, hb⟩
end Go.Proofs.YtfhhnelffldggaaGreatDoor.I
namespace Go.Proofs.YtfhhnelffldggaaGreatDoor
open Go.RowKit Go.PlainAid Plain
set_option linter.unusedVariables false
set_option linter.unusedSimpArgs false
theorem mem_ifn {i k : Nat} {x : Bool} : (i ∈ (if x = true then ([] : List Nat) else [k])) ↔ (x = false ∧ i = k) := by cases x <;> simp
theorem grQ {w w' : World} {g k : Nat} {o : Obj} (hg : w.grownBy w' (some g)) (h : w.heap[k]? = some o) (hne : k ≠ g) : w'.heap[k]? = some o :=
 (hg.block k (row_lt h) (fun e => hne (by cases e; rfl))).trans h
structure RS (s : ByteArray) (r C : Nat) (y : Bool) (c : Fin 3) (t30 t31 t7 : Value) (w : World) : Prop where
 c0 : c = 0 → CurX w C s 1 false
 c1 : 0 < c → ∃ (n : Int) (a1 : Nat) (b1 : Bool), t30 = .int .i64 n ∧ StepV s 1 false n a1 b1 ∧ CurX w C s a1 b1 ∧ (c = 2 → t31 = .agg #[.int .i64 (bt s 0), .int .i64 n, .int .i64 0, .int .i64 0])
 y : y = true → ∃ b, t7 = .pointer (some ⟨b, 0, none⟩) ∧ w.heap[b]? = some (oB 0 0 0 0) ∧ C < b
 z : w.heap[r]? = some (oB 0 0 0 0)
 lt : r < C
theorem RS.clt {s : ByteArray} {r C : Nat} {y : Bool} {c : Fin 3} {t30 t31 t7 : Value} {w : World} (h : RS s r C y c t30 t31 t7 w) : C < w.heap.size := by
 by_cases hc : c = 0
 · exact row_lt (h.c0 hc)
 ·
  obtain ⟨n, a1, b1, _, _, e, _⟩ := h.c1 (Fin.pos_iff_ne_zero.2 hc)
  exact row_lt e
theorem read_all {t s : ByteArray} {k n d v n0 d0 v0 : Int} {a1 a2 a3 : Nat} {b1 b2 b3 : Bool} (hU : Q.unsealed t = some s) (hR : OrdR k n d v) (hT : ordT k n d v = t) (h1 : StepV s 1 false n0 a1 b1) (h2 : StepV s a1 b1 d0 a2 b2) (h3 : StepV s a2 b2 v0 a3 b3) :
  b3 = false ∧ OrdR (bt s 0) n0 d0 v0 ∧ ordT (bt s 0) n0 d0 v0 = t := by
 have e := uns_ord hR hT
 rw [hU] at e
 obtain rfl := Option.some.inj e
 have hk : bt (ordB k n d v) 0 = k := by
  have h := (V.bt_drop (s := ordB k n d v) (k := 0) (by rw [List.drop_zero, ordB_list])).2.1
  rw [h, UInt8.toNat_ofNat']
  have := hR.bd
  omega
 have g1 := rd_num hR
 rcases h1 with ⟨_, h1, rfl⟩ | ⟨h1 | h1, _⟩
 ·
  rw [show ((1 : Nat) : Int) = (1 : Nat) from rfl] at g1
  rw [g1] at h1
  obtain ⟨rfl, rfl⟩ := Prod.mk.inj (Option.some.inj h1)
  rcases h2 with ⟨_, h2, rfl⟩ | ⟨h2 | h2, _⟩
  ·
   rw [rd_den hR] at h2
   obtain ⟨rfl, rfl⟩ := Prod.mk.inj (Option.some.inj h2)
   rcases h3 with ⟨_, h3, rfl⟩ | ⟨h3 | h3, _⟩
   ·
    rw [rd_vol hR] at h3
    obtain ⟨rfl, rfl⟩ := Prod.mk.inj (Option.some.inj h3)
    rw [hk]
    exact ⟨rfl, hR, hT⟩
   · cases h3
   · rw [rd_vol hR] at h3; cases h3
  · cases h2
  · rw [rd_den hR] at h2; cases h2
 · cases h1
 · rw [g1] at h1; cases h1
theorem readoS (t : ByteArray) (ht : t.size ≤ 1048576) (w : World) : Calls Tryz.prog 51 #[.string t] w fun e w' => ∃ (k n d v : Int) (b : Bool), e = .returned (.tuple #[ordV k n d v, .bool b]) ∧ RdOr t k n d v b ∧ Below w.heap.size w w' := by
 have HB0 : Hid (Below w.heap.size w (w.alloc (oB 0 0 0 0))) := (Below.refl _ _).alloc (Nat.le_refl _) _
 have HZ0 : Hid ((w.alloc (oB 0 0 0 0)).heap[w.heap.size]? = some (oB 0 0 0 0)) := heap_new w _
 have K1 : Hid (∀ w, Calls Tryz.prog 103 #[.string t] w fun e w' => e = .returned (Q.encU (Q.unsealed t)) ∧ Below w.heap.size w w') := fun w => Q.sun4 t ht w
 rcases hU : Q.unsealed t with _ | s
 ·
  have HR : Hid (RdOr t 0 0 0 0 false) := (.inr ⟨fun k n d v h1 h2 => (by have := uns_ord h1 h2; rw [hU] at this; cases this), rfl, rfl, rfl, rfl, rfl⟩ : RdOr t 0 0 0 0 false)
  rw [hU] at K1
  go_enter Tryz.func51, Tryz.ntmps51
  go_wp2_with fail
  refine (K1.out _).mono ?_
  rintro e w1 ⟨rfl, hb1⟩
  unfold Q.encU
  have HZ1 := rq HZ0 hb1
  have HB1 := bq HB0 hb1
  clear hb1 HZ0 HB0 K1 hU
  have kz := box4_cells HZ1.out
  go_wp2
  have HQ : Hid (((((w1.setCell ⟨w.heap.size, 0, none⟩ (.int .i64 0)).setCell ⟨w.heap.size, 1, none⟩ (.int .i64 0)).setCell ⟨w.heap.size, 2, none⟩ (.int .i64 0)).setCell ⟨w.heap.size, 3, none⟩ (.int .i64 0)).heap[w.heap.size]? = some (oB 0 0 0 0)) := set_row5 (set_row5 (set_row5 (set_row5 HZ1.out 0 _) 1 _) 2 _) 3 _
  have HBD : Hid (Below w.heap.size w ((((w1.setCell ⟨w.heap.size, 0, none⟩ (.int .i64 0)).setCell ⟨w.heap.size, 1, none⟩ (.int .i64 0)).setCell ⟨w.heap.size, 2, none⟩ (.int .i64 0)).setCell ⟨w.heap.size, 3, none⟩ (.int .i64 0))) := (((HB1.out.setCell (Nat.le_refl _) _).setCell (Nat.le_refl _) _).setCell (Nat.le_refl _) _).setCell (Nat.le_refl _) _
  obtain ⟨WD, hWD⟩ : ∃ W, W = ((((w1.setCell ⟨w.heap.size, 0, none⟩ (.int .i64 0)).setCell ⟨w.heap.size, 1, none⟩ (.int .i64 0)).setCell ⟨w.heap.size, 2, none⟩ (.int .i64 0)).setCell ⟨w.heap.size, 3, none⟩ (.int .i64 0)) := ⟨_, rfl⟩
  rw [← hWD] at HQ HBD ⊢
  clear hWD kz
  have kf := box4_cells HQ.out
  exact bodyPost_ret (v := .tuple #[.agg #[.int .i64 0, .int .i64 0, .int .i64 0, .int .i64 0], .bool false]) (by simp [results, Tryz.results51, go_sem, kf]) rfl ⟨0, 0, 0, 0, false, rfl, HR.out, HBD.out⟩
 have hus := uns_some hU
 have hs : s.size ≤ 1048576 := by have := hus.2; omega
 clear hus
 by_cases h0 : s.size < 1
 ·
  have HR : Hid (RdOr t 0 0 0 0 false) := (.inr ⟨fun k n d v h1 h2 => (by have e := uns_ord h1 h2; rw [hU] at e; have e2 := Option.some.inj e; subst e2; rw [ordB_size] at h0; omega), rfl, rfl, rfl, rfl, rfl⟩ : RdOr t 0 0 0 0 false)
  rw [hU] at K1
  go_enter Tryz.func51, Tryz.ntmps51
  go_wp2_with fail
  refine (K1.out _).mono ?_
  rintro e w1 ⟨rfl, hb1⟩
  unfold Q.encU
  have HZ1 := rq HZ0 hb1
  have HB1 := bq HB0 hb1
  clear hb1 HZ0 HB0 K1 hU
  have kz := box4_cells HZ1.out
  have h0' : (s.size : Int) < 1 := by omega
  go_wp2
  have HQ : Hid (((((w1.setCell ⟨w.heap.size, 0, none⟩ (.int .i64 0)).setCell ⟨w.heap.size, 1, none⟩ (.int .i64 0)).setCell ⟨w.heap.size, 2, none⟩ (.int .i64 0)).setCell ⟨w.heap.size, 3, none⟩ (.int .i64 0)).heap[w.heap.size]? = some (oB 0 0 0 0)) := set_row5 (set_row5 (set_row5 (set_row5 HZ1.out 0 _) 1 _) 2 _) 3 _
  have HBD : Hid (Below w.heap.size w ((((w1.setCell ⟨w.heap.size, 0, none⟩ (.int .i64 0)).setCell ⟨w.heap.size, 1, none⟩ (.int .i64 0)).setCell ⟨w.heap.size, 2, none⟩ (.int .i64 0)).setCell ⟨w.heap.size, 3, none⟩ (.int .i64 0))) := (((HB1.out.setCell (Nat.le_refl _) _).setCell (Nat.le_refl _) _).setCell (Nat.le_refl _) _).setCell (Nat.le_refl _) _
  obtain ⟨WD, hWD⟩ : ∃ W, W = ((((w1.setCell ⟨w.heap.size, 0, none⟩ (.int .i64 0)).setCell ⟨w.heap.size, 1, none⟩ (.int .i64 0)).setCell ⟨w.heap.size, 2, none⟩ (.int .i64 0)).setCell ⟨w.heap.size, 3, none⟩ (.int .i64 0)) := ⟨_, rfl⟩
  rw [← hWD] at HQ HBD ⊢
  clear hWD kz
  have kf := box4_cells HQ.out
  exact bodyPost_ret (v := .tuple #[.agg #[.int .i64 0, .int .i64 0, .int .i64 0, .int .i64 0], .bool false]) (by simp [results, Tryz.results51, go_sem, kf]) rfl ⟨0, 0, 0, 0, false, rfl, HR.out, HBD.out⟩
 have h1 : 1 ≤ s.size := by omega
 have h0' : ¬ (s.size : Int) < 1 := by omega
 have hp : (0 : Int) < (s.size : Int) := by omega
 have hp2 : 0 < s.size := h1
 have HU := hq hU
 have hbt := get_bt s
 have hb255 : 0 ≤ bt s 0 ∧ bt s 0 ≤ 255 := ⟨bt_nonneg s 0, bt_le s 0⟩
 rw [hU] at K1
 clear hU h0
 go_enter Tryz.func51, Tryz.ntmps51
 go_wp2_with fail
 refine (K1.out _).mono ?_
 rintro e w1 ⟨rfl, hb1⟩
 unfold Q.encU
 have HZ1 := rq HZ0 hb1
 have HB1 := bq HB0 hb1
 clear hb1 HZ0 HB0 K1
 go_upto_region 5 with fail
 obtain ⟨C, hC⟩ : ∃ C, w1.heap.size = C := ⟨_, rfl⟩
 have hlt : w.heap.size < C := by rw [← hC]; exact row_lt HZ1.out
 have HC2 : Hid (CurX (w1.alloc (.cells #[.string s, .int .i64 1, .bool false] 143)) C s 1 false) := by rw [← hC]; exact heap_new w1 _
 have HZ2 : Hid ((w1.alloc (.cells #[.string s, .int .i64 1, .bool false] 143)).heap[w.heap.size]? = some (oB 0 0 0 0)) := row_on HZ1.out (alQ _ _)
 have HB2 : Hid (Below w.heap.size w (w1.alloc (.cells #[.string s, .int .i64 1, .bool false] 143))) := bel_on (Nat.le_refl _) HB1.out (alQ _ _)
 try rw [hC]
 obtain ⟨w2, hw2⟩ : ∃ W, W = w1.alloc (.cells #[.string s, .int .i64 1, .bool false] 143) := ⟨_, rfl⟩
 rw [← hw2] at HC2 HZ2 HB2 ⊢
 clear hw2 HZ1 HB1 hC
 refine wp_region_held_drew (S := fun w' => Below w.heap.size w w') (by kernel_rfl) HB2.out.drew (fun hHeld => ?_)
 refine tkQ 0 ?_ rfl ?_ ?_
 rotate_left
 · intro w_ hSw; (try obtain ⟨z0_⟩ := hSw); go_simp <;> with_reducible rfl
 try simp only [Act.put, sQ]
 refine tkQ 1 ?_ rfl ?_ ?_
 rotate_left
 · intro w_ hSw; (try obtain ⟨z0_⟩ := hSw); go_simp <;> with_reducible rfl
 try simp only [Act.put, sQ]
 refine tkQ 2 ?_ rfl ?_ ?_
 rotate_left
 · intro w_ hSw; (try obtain ⟨z0_⟩ := hSw); go_simp <;> with_reducible rfl
 try simp only [Act.put, sQ]
 refine tkQ 3 ?_ rfl ?_ ?_
 rotate_left
 · intro w_ hSw; (try obtain ⟨z0_⟩ := hSw); go_simp <;> with_reducible rfl
 try simp only [Act.put, sQ]
 have hwb : IntKind.i64.wrap (bt s 0) = bt s 0 := by rw [IntKind.wrap_i64]; omega
 rw [hwb]
 refine wpAnyH_named (fun a0 ha0 => ?_)
 have HA0 := hq ha0
 clear ha0
 refine any_states (σ := Bool × Fin 3) (fun s => #[true, true, true, true, decide (0 < s.2), decide (1 < s.2), s.1, false]) (fun s => (if s.2 = 0 then [4] else []) ++ (if s.2 = 1 then [5] else []) ++ (if s.1 = true then [] else [6])) (fun s => 1 + (if s.1 then 0 else 1) + (2 - s.2.val)) (fun s => true) (fun s => decide (s.2 = 2) && s.1) (fun q a w_ => ∃ t30 t31 t7 : Value, a = ((a0.put (some 30) t30).put (some 31) t31).put (some 7) t7 ∧ RS s (w.heap.size) C q.1 q.2 t30 t31 t7 w_) ?_ ?_ ?_ 4 (false, 0) _ _ _ (by decide) (by decide) (by decide) hHeld ⟨a0.tmps.getD 30 undef, a0.tmps.getD 31 undef, a0.tmps.getD 7 undef, (by simp only [put_self]), ⟨fun _ => row_on HC2.out (Below.refl _ _).drew, fun h => absurd h (by simp), fun h => absurd h (by simp), row_on HZ2.out (Below.refl _ _).drew, hlt⟩⟩
 ·
  rintro ⟨y, c⟩
  dsimp only
  revert y c
  decide +kernel
 ·
  rintro ⟨y, c⟩ i hok hfin hi
  dsimp only at hok hfin hi
  simp only [List.mem_append, mem_ifn, mem_ifc] at hi
  rcases hi with (hi | hi) | hi
  ·
   obtain ⟨rfl, rfl⟩ := hi
   refine ⟨(y, 1), rfl, rfl, ?_, ?_⟩
   · clear hfin hok; revert y; decide +kernel
   rintro a w_ hSw ⟨t30, t31, t7, rfl, hn⟩
   dsimp only at hn ⊢
   refine wpOp_step (i := 4) rfl (fun K hK => ?_)
   have HK : Shut _ := hK
   clear hK
   rw [HA0.out]
   simp only [Act.put, List.setIfInBounds_toArray, List.set_cons_zero, List.set_cons_succ]
   go_simp
   go_at_call 104
   refine (varC C s 1 false hs h1 w_ (hn.c0 rfl)).mono ?_
   rintro e w2 ⟨n, a1, b1, rfl, hst, hcu, hg⟩
   go_wp2_with fail
   have hCl : w.heap.size < C := hn.lt
   exact HK.out _ _ ⟨hSw.trans ((Below.refl _ _).grown hg hSw.size (fun k hk => by cases hk; omega)), .int .i64 n, t31, t7, (by rw [HA0.out]; simp only [Act.put, List.setIfInBounds_toArray, List.set_cons_zero, List.set_cons_succ]), ⟨fun h => absurd h (by simp), fun _ => ⟨n, a1, b1, rfl, hst, hcu, fun h => absurd h (by simp)⟩, fun h => by obtain ⟨b, e1, e2, e3⟩ := hn.y h; exact ⟨b, e1, grQ hg e2 (by omega), e3⟩, grQ hg hn.z (by omega), hCl⟩⟩
  ·
   obtain ⟨rfl, rfl⟩ := hi
   refine ⟨(y, 2), rfl, rfl, ?_, ?_⟩
   · clear hfin hok; revert y; decide +kernel
   rintro a w_ hSw ⟨t30, t31, t7, rfl, hn⟩
   dsimp only at hn ⊢
   refine wpOp_step (i := 5) rfl (fun K hK => ?_)
   have HK : Shut _ := hK
   clear hK
   rw [HA0.out]
   simp only [Act.put, List.setIfInBounds_toArray, List.set_cons_zero, List.set_cons_succ]
   obtain ⟨n, a1, b1, rfl, hst, hcu, _⟩ := hn.c1 (by simp)
   go_simp
   exact HK.out _ _ ⟨hSw, .int .i64 n, .agg #[.int .i64 (bt s 0), .int .i64 n, .int .i64 0, .int .i64 0], t7, (by rw [HA0.out]; simp only [Act.put, List.setIfInBounds_toArray, List.set_cons_zero, List.set_cons_succ]), ⟨fun h => absurd h (by simp), fun _ => ⟨n, a1, b1, rfl, hst, hcu, fun _ => rfl⟩, hn.y, hn.z, hn.lt⟩⟩
  ·
   obtain ⟨hy, rfl⟩ := hi
   subst hy
   refine ⟨(true, c), rfl, rfl, ?_, ?_⟩
   · clear hfin hok; revert c; decide +kernel
   rintro a w_ hSw ⟨t30, t31, t7, rfl, hn⟩
   dsimp only at hn ⊢
   refine wpOp_step (i := 6) rfl (fun K hK => ?_)
   have HK : Shut _ := hK
   clear hK
   rw [HA0.out]
   simp only [Act.put, List.setIfInBounds_toArray, List.set_cons_zero, List.set_cons_succ]
   go_simp
   exact HK.out _ _ ⟨bel_on (Nat.le_refl _) hSw (alQ w_ _), t30, t31, _, (by rw [HA0.out]; simp only [Act.put, List.setIfInBounds_toArray, List.set_cons_zero, List.set_cons_succ]), ⟨fun h => row_on (hn.c0 h) (alQ w_ _), fun h => by obtain ⟨n, a1, b1, e1, e2, e3, e4⟩ := hn.c1 h; exact ⟨n, a1, b1, e1, e2, row_on e3 (alQ w_ _), e4⟩, fun _ => ⟨w_.heap.size, rfl, heap_new w_ _, hn.clt⟩, row_on hn.z (alQ w_ _), hn.lt⟩⟩
 ·
  rintro ⟨y, c⟩ a w_ f2 hok hfin hf hSw ⟨t30, t31, t7, rfl, hn⟩
  dsimp only at hok hfin hf hn ⊢
  obtain ⟨rfl, rfl⟩ : c = 2 ∧ y = true := by simpa using hfin
  obtain ⟨f3, rfl⟩ : ∃ f3, f2 = f3 + 1 := ⟨f2 - 1, by have h3 : 1 ≤ f2 := (by first | exact hf | simpa using hf); omega⟩
  obtain ⟨n, a1, b1, rfl, hst1, hcu, ht31⟩ := hn.c1 (by simp)
  obtain rfl := ht31 rfl
  obtain ⟨b, rfl, hrow, hCb⟩ := hn.y rfl
  have hz := hn.z
  have kk := box4_cells hrow
  rw [HA0.out]
  simp only [Act.put, List.setIfInBounds_toArray, List.set_cons_zero, List.set_cons_succ]
  refine wpAnyH_ready (rs := [7]) (by kernel_rfl) (by simp) ?_
  refine AllReadyH.cons rfl (fun K hK => ?_) AllReadyH.nil
  go_simp
  have hbC : w.heap.size < b := by have := hn.lt; omega
  have HQ4 : Hid (((((w_.setCell ⟨b, 0, none⟩ (.int .i64 (bt s 0))).setCell ⟨b, 1, none⟩ (.int .i64 n)).setCell ⟨b, 2, none⟩ (.int .i64 0)).setCell ⟨b, 3, none⟩ (.int .i64 0)).heap[b]? = some (oB (bt s 0) n 0 0)) := set_row5 (set_row5 (set_row5 (set_row5 hrow 0 _) 1 _) 2 _) 3 _
  have HC4 : Hid (CurX ((((w_.setCell ⟨b, 0, none⟩ (.int .i64 (bt s 0))).setCell ⟨b, 1, none⟩ (.int .i64 n)).setCell ⟨b, 2, none⟩ (.int .i64 0)).setCell ⟨b, 3, none⟩ (.int .i64 0)) C s a1 b1) := set_far (set_far (set_far (set_far hcu (by omega)) (by omega)) (by omega)) (by omega)
  have HZ4 : Hid (((((w_.setCell ⟨b, 0, none⟩ (.int .i64 (bt s 0))).setCell ⟨b, 1, none⟩ (.int .i64 n)).setCell ⟨b, 2, none⟩ (.int .i64 0)).setCell ⟨b, 3, none⟩ (.int .i64 0)).heap[w.heap.size]? = some (oB 0 0 0 0)) := set_far (set_far (set_far (set_far hz (by omega)) (by omega)) (by omega)) (by omega)
  have HB4 : Hid (Below w.heap.size w ((((w_.setCell ⟨b, 0, none⟩ (.int .i64 (bt s 0))).setCell ⟨b, 1, none⟩ (.int .i64 n)).setCell ⟨b, 2, none⟩ (.int .i64 0)).setCell ⟨b, 3, none⟩ (.int .i64 0))) := (((hSw.setCell (show w.heap.size ≤ b by omega) _).setCell (show w.heap.size ≤ b by omega) _).setCell (show w.heap.size ≤ b by omega) _).setCell (show w.heap.size ≤ b by omega) _
  have hlC := hn.lt
  refine hK.out _ _ HB4.out (fun hHeld2 => ?_)
  clear hK K hHeld2
  obtain ⟨w4, hw4⟩ : ∃ W, W = ((((w_.setCell ⟨b, 0, none⟩ (.int .i64 (bt s 0))).setCell ⟨b, 1, none⟩ (.int .i64 n)).setCell ⟨b, 2, none⟩ (.int .i64 0)).setCell ⟨b, 3, none⟩ (.int .i64 0)) := ⟨_, rfl⟩
  rw [← hw4] at HQ4 HC4 HZ4 HB4 ⊢
  clear hw4 hn hrow hcu hz hSw kk HA0 HC2 HZ2 HB2 hHeld hf hfin hok
  refine wpAnyH_done (by kernel_rfl) ?_ _
  have HN1 := hst1.num h1
  have hst1' : Hid (StepV s 1 false n a1 b1) := hst1
  clear hst1
  go_wp2_with fail
  refine (varC C s a1 b1 hs HN1.2.2 _ HC4.out).mono ?_
  rintro e w5 ⟨d, a2, b2, rfl, hst2, hcu5, hg5⟩
  have HQ5 : Hid ((w5.setCell ⟨b, 2, none⟩ (.int .i64 d)).heap[b]? = some (oB (bt s 0) n d 0)) := set_row5 (grQ hg5 HQ4.out (by omega)) 2 _
  have HC5 : Hid (CurX (w5.setCell ⟨b, 2, none⟩ (.int .i64 d)) C s a2 b2) := set_far hcu5 (by omega)
  have HZ5 : Hid ((w5.setCell ⟨b, 2, none⟩ (.int .i64 d)).heap[w.heap.size]? = some (oB 0 0 0 0)) := set_far (grQ hg5 HZ4.out (by omega)) (by omega)
  have HB5 : Hid (Below w.heap.size w (w5.setCell ⟨b, 2, none⟩ (.int .i64 d))) := (HB4.out.trans ((Below.refl _ _).grown hg5 HB4.out.size (fun k hk => by cases hk; omega))).setCell (show w.heap.size ≤ b by omega) _
  have kq5 := box4_cells (grQ hg5 HQ4.out (show b ≠ C by omega))
  have HN2 := hst2.num HN1.2.2
  have hst2' : Hid (StepV s a1 b1 d a2 b2) := hst2
  clear hst2 hcu5 hg5 HQ4 HC4 HZ4 HB4
  go_upto_region 7 with fail
  obtain ⟨w6, hw6⟩ : ∃ W, W = w5.setCell ⟨b, 2, none⟩ (.int .i64 d) := ⟨_, rfl⟩
  rw [← hw6] at HQ5 HC5 HZ5 HB5 ⊢
  clear hw6 kq5
  go_wp2_with fail
  refine (varC C s a2 b2 hs HN2.2.2 _ HC5.out).mono ?_
  rintro e w7 ⟨v, a3, b3, rfl, hst3, hcu7, hg7⟩
  have HQ7 : Hid ((w7.setCell ⟨b, 3, none⟩ (.int .i64 v)).heap[b]? = some (oB (bt s 0) n d v)) := set_row5 (grQ hg7 HQ5.out (by omega)) 3 _
  have HC7 : Hid (CurX (w7.setCell ⟨b, 3, none⟩ (.int .i64 v)) C s a3 b3) := set_far hcu7 (by omega)
  have HZ7 : Hid ((w7.setCell ⟨b, 3, none⟩ (.int .i64 v)).heap[w.heap.size]? = some (oB 0 0 0 0)) := set_far (grQ hg7 HZ5.out (by omega)) (by omega)
  have HB7 : Hid (Below w.heap.size w (w7.setCell ⟨b, 3, none⟩ (.int .i64 v))) := (HB5.out.trans ((Below.refl _ _).grown hg7 HB5.out.size (fun k hk => by cases hk; omega))).setCell (show w.heap.size ≤ b by omega) _
  have kq7 := box4_cells (grQ hg7 HQ5.out (show b ≠ C by omega))
  have hst3' : Hid (StepV s a2 b2 v a3 b3) := hst3
  clear hst3 hcu7 hg7 HQ5 HC5 HZ5 HB5
  go_upto_region 8 with fail
  obtain ⟨w8, hw8⟩ : ∃ W, W = w7.setCell ⟨b, 3, none⟩ (.int .i64 v) := ⟨_, rfl⟩
  rw [← hw8] at HQ7 HC7 HZ7 HB7 ⊢
  clear hw8 kq7
  have HOUT : Hid (¬ (b3 = false ∧ OrdR (bt s 0) n d v ∧ ordT (bt s 0) n d v = t) → RdOr t 0 0 0 0 false) := fun hno => .inr ⟨fun k' n' d' v' h1' h2' => hno (read_all HU.out h1' h2' hst1'.out hst2'.out hst3'.out), rfl, rfl, rfl, rfl, rfl⟩
  have kq := box4_cells HQ7.out
  by_cases hR : OrdR (bt s 0) n d v
  ·
   go_wp2_with fail
   refine (textS (bt s 0) n d v hR _).mono ?_
   rintro e w9 ⟨rfl, hb9⟩
   have HC9 := hq (row_on HC7.out hb9)
   have HQ9 := rq HQ7 hb9
   have HZ9 := rq HZ7 hb9
   have HB9 := bq HB7 hb9
   clear hb9 HC7 HQ7 HZ7 HB7 kq
   have kc := row3_cells HC9.out
   have kq := box4_cells HQ9.out
   have kz := box4_cells HZ9.out
   have HRR := hq hR
   obtain ⟨T, hT⟩ : ∃ T, ordT (bt s 0) n d v = T := ⟨_, rfl⟩
   rw [hT] at HOUT ⊢
   have HT := hq hT
   clear hT hR
   cases b3
   ·
    by_cases he : T = t
    ·
     subst he
     have HY : Hid (RdOr T (bt s 0) n d v true) := .inl ⟨HRR.out, HT.out, rfl⟩
     go_wp2
     have HQ : Hid (((((w9.setCell ⟨w.heap.size, 0, none⟩ (.int .i64 (bt s 0))).setCell ⟨w.heap.size, 1, none⟩ (.int .i64 n)).setCell ⟨w.heap.size, 2, none⟩ (.int .i64 d)).setCell ⟨w.heap.size, 3, none⟩ (.int .i64 v)).heap[w.heap.size]? = some (oB (bt s 0) n d v)) := set_row5 (set_row5 (set_row5 (set_row5 HZ9.out 0 _) 1 _) 2 _) 3 _
     have HBD : Hid (Below w.heap.size w ((((w9.setCell ⟨w.heap.size, 0, none⟩ (.int .i64 (bt s 0))).setCell ⟨w.heap.size, 1, none⟩ (.int .i64 n)).setCell ⟨w.heap.size, 2, none⟩ (.int .i64 d)).setCell ⟨w.heap.size, 3, none⟩ (.int .i64 v))) := (((HB9.out.setCell (Nat.le_refl _) _).setCell (Nat.le_refl _) _).setCell (Nat.le_refl _) _).setCell (Nat.le_refl _) _
     obtain ⟨WD, hWD⟩ : ∃ W, W = ((((w9.setCell ⟨w.heap.size, 0, none⟩ (.int .i64 (bt s 0))).setCell ⟨w.heap.size, 1, none⟩ (.int .i64 n)).setCell ⟨w.heap.size, 2, none⟩ (.int .i64 d)).setCell ⟨w.heap.size, 3, none⟩ (.int .i64 v)) := ⟨_, rfl⟩
     rw [← hWD] at HQ HBD ⊢
     clear hWD kz
     have kf := box4_cells HQ.out
     exact bodyPost_ret (v := .tuple #[.agg #[.int .i64 (bt s 0), .int .i64 n, .int .i64 d, .int .i64 v], .bool true]) (by simp [results, Tryz.results51, go_sem, kf]) rfl ⟨bt s 0, n, d, v, true, rfl, HY.out, HBD.out⟩
    ·
     have HR : Hid (RdOr t 0 0 0 0 false) := HOUT.out (fun h => he h.2.2)
     have hbq : (T.toList == t.toList) = false := beq_eq_false_iff_ne.mpr fun h => he (ba_eq (by rw [← ByteArray.toList_eq, ← ByteArray.toList_eq]; exact h))
     clear he
     go_wp2
     have HQ : Hid (((((w9.setCell ⟨w.heap.size, 0, none⟩ (.int .i64 0)).setCell ⟨w.heap.size, 1, none⟩ (.int .i64 0)).setCell ⟨w.heap.size, 2, none⟩ (.int .i64 0)).setCell ⟨w.heap.size, 3, none⟩ (.int .i64 0)).heap[w.heap.size]? = some (oB 0 0 0 0)) := set_row5 (set_row5 (set_row5 (set_row5 HZ9.out 0 _) 1 _) 2 _) 3 _
     have HBD : Hid (Below w.heap.size w ((((w9.setCell ⟨w.heap.size, 0, none⟩ (.int .i64 0)).setCell ⟨w.heap.size, 1, none⟩ (.int .i64 0)).setCell ⟨w.heap.size, 2, none⟩ (.int .i64 0)).setCell ⟨w.heap.size, 3, none⟩ (.int .i64 0))) := (((HB9.out.setCell (Nat.le_refl _) _).setCell (Nat.le_refl _) _).setCell (Nat.le_refl _) _).setCell (Nat.le_refl _) _
     obtain ⟨WD, hWD⟩ : ∃ W, W = ((((w9.setCell ⟨w.heap.size, 0, none⟩ (.int .i64 0)).setCell ⟨w.heap.size, 1, none⟩ (.int .i64 0)).setCell ⟨w.heap.size, 2, none⟩ (.int .i64 0)).setCell ⟨w.heap.size, 3, none⟩ (.int .i64 0)) := ⟨_, rfl⟩
     rw [← hWD] at HQ HBD ⊢
     clear hWD kz
     have kf := box4_cells HQ.out
     exact bodyPost_ret (v := .tuple #[.agg #[.int .i64 0, .int .i64 0, .int .i64 0, .int .i64 0], .bool false]) (by simp [results, Tryz.results51, go_sem, kf]) rfl ⟨0, 0, 0, 0, false, rfl, HR.out, HBD.out⟩
   ·
    have HR : Hid (RdOr t 0 0 0 0 false) := HOUT.out (fun h => by cases h.1)
    go_wp2
    have HQ : Hid (((((w9.setCell ⟨w.heap.size, 0, none⟩ (.int .i64 0)).setCell ⟨w.heap.size, 1, none⟩ (.int .i64 0)).setCell ⟨w.heap.size, 2, none⟩ (.int .i64 0)).setCell ⟨w.heap.size, 3, none⟩ (.int .i64 0)).heap[w.heap.size]? = some (oB 0 0 0 0)) := set_row5 (set_row5 (set_row5 (set_row5 HZ9.out 0 _) 1 _) 2 _) 3 _
    have HBD : Hid (Below w.heap.size w ((((w9.setCell ⟨w.heap.size, 0, none⟩ (.int .i64 0)).setCell ⟨w.heap.size, 1, none⟩ (.int .i64 0)).setCell ⟨w.heap.size, 2, none⟩ (.int .i64 0)).setCell ⟨w.heap.size, 3, none⟩ (.int .i64 0))) := (((HB9.out.setCell (Nat.le_refl _) _).setCell (Nat.le_refl _) _).setCell (Nat.le_refl _) _).setCell (Nat.le_refl _) _
    obtain ⟨WD, hWD⟩ : ∃ W, W = ((((w9.setCell ⟨w.heap.size, 0, none⟩ (.int .i64 0)).setCell ⟨w.heap.size, 1, none⟩ (.int .i64 0)).setCell ⟨w.heap.size, 2, none⟩ (.int .i64 0)).setCell ⟨w.heap.size, 3, none⟩ (.int .i64 0)) := ⟨_, rfl⟩
    rw [← hWD] at HQ HBD ⊢
    clear hWD kz
    have kf := box4_cells HQ.out
    exact bodyPost_ret (v := .tuple #[.agg #[.int .i64 0, .int .i64 0, .int .i64 0, .int .i64 0], .bool false]) (by simp [results, Tryz.results51, go_sem, kf]) rfl ⟨0, 0, 0, 0, false, rfl, HR.out, HBD.out⟩
  ·
   have HR : Hid (RdOr t 0 0 0 0 false) := HOUT.out (fun h => hR h.2.1)
   go_wp2_with fail
   refine (textNo (bt s 0) n d v hR _).mono ?_
   rintro e w9 ⟨rfl, hb9⟩
   have HC9 := hq (row_on HC7.out hb9)
   have HZ9 := rq HZ7 hb9
   have HB9 := bq HB7 hb9
   clear hb9 HC7 HQ7 HZ7 HB7 kq hR
   have kc := row3_cells HC9.out
   have kz := box4_cells HZ9.out
   cases b3
   ·
    go_wp2
    have HQ : Hid (((((w9.setCell ⟨w.heap.size, 0, none⟩ (.int .i64 0)).setCell ⟨w.heap.size, 1, none⟩ (.int .i64 0)).setCell ⟨w.heap.size, 2, none⟩ (.int .i64 0)).setCell ⟨w.heap.size, 3, none⟩ (.int .i64 0)).heap[w.heap.size]? = some (oB 0 0 0 0)) := set_row5 (set_row5 (set_row5 (set_row5 HZ9.out 0 _) 1 _) 2 _) 3 _
    have HBD : Hid (Below w.heap.size w ((((w9.setCell ⟨w.heap.size, 0, none⟩ (.int .i64 0)).setCell ⟨w.heap.size, 1, none⟩ (.int .i64 0)).setCell ⟨w.heap.size, 2, none⟩ (.int .i64 0)).setCell ⟨w.heap.size, 3, none⟩ (.int .i64 0))) := (((HB9.out.setCell (Nat.le_refl _) _).setCell (Nat.le_refl _) _).setCell (Nat.le_refl _) _).setCell (Nat.le_refl _) _
    obtain ⟨WD, hWD⟩ : ∃ W, W = ((((w9.setCell ⟨w.heap.size, 0, none⟩ (.int .i64 0)).setCell ⟨w.heap.size, 1, none⟩ (.int .i64 0)).setCell ⟨w.heap.size, 2, none⟩ (.int .i64 0)).setCell ⟨w.heap.size, 3, none⟩ (.int .i64 0)) := ⟨_, rfl⟩
    rw [← hWD] at HQ HBD ⊢
    clear hWD kz
    have kf := box4_cells HQ.out
    exact bodyPost_ret (v := .tuple #[.agg #[.int .i64 0, .int .i64 0, .int .i64 0, .int .i64 0], .bool false]) (by simp [results, Tryz.results51, go_sem, kf]) rfl ⟨0, 0, 0, 0, false, rfl, HR.out, HBD.out⟩
   ·
    go_wp2
    have HQ : Hid (((((w9.setCell ⟨w.heap.size, 0, none⟩ (.int .i64 0)).setCell ⟨w.heap.size, 1, none⟩ (.int .i64 0)).setCell ⟨w.heap.size, 2, none⟩ (.int .i64 0)).setCell ⟨w.heap.size, 3, none⟩ (.int .i64 0)).heap[w.heap.size]? = some (oB 0 0 0 0)) := set_row5 (set_row5 (set_row5 (set_row5 HZ9.out 0 _) 1 _) 2 _) 3 _
    have HBD : Hid (Below w.heap.size w ((((w9.setCell ⟨w.heap.size, 0, none⟩ (.int .i64 0)).setCell ⟨w.heap.size, 1, none⟩ (.int .i64 0)).setCell ⟨w.heap.size, 2, none⟩ (.int .i64 0)).setCell ⟨w.heap.size, 3, none⟩ (.int .i64 0))) := (((HB9.out.setCell (Nat.le_refl _) _).setCell (Nat.le_refl _) _).setCell (Nat.le_refl _) _).setCell (Nat.le_refl _) _
    obtain ⟨WD, hWD⟩ : ∃ W, W = ((((w9.setCell ⟨w.heap.size, 0, none⟩ (.int .i64 0)).setCell ⟨w.heap.size, 1, none⟩ (.int .i64 0)).setCell ⟨w.heap.size, 2, none⟩ (.int .i64 0)).setCell ⟨w.heap.size, 3, none⟩ (.int .i64 0)) := ⟨_, rfl⟩
    rw [← hWD] at HQ HBD ⊢
    clear hWD kz
    have kf := box4_cells HQ.out
    exact bodyPost_ret (v := .tuple #[.agg #[.int .i64 0, .int .i64 0, .int .i64 0, .int .i64 0], .bool false]) (by simp [results, Tryz.results51, go_sem, kf]) rfl ⟨0, 0, 0, 0, false, rfl, HR.out, HBD.out⟩
end Go.Proofs.YtfhhnelffldggaaGreatDoor
