/-
  Drawn keys; a drawn menu.
-/
import Derived.Test.YtfhhnelffldggaaGreatDoorUqAF
import Derived.Test.YtfhhnelffldggaaGreatDoorUqAJ
import Derived.Test.YtfhhnelffldggaaGreatDoorUqAG
import Derived.Test.YtfhhnelffldggaaGreatDoorUqAD
import Derived.OpenShut
set_option maxRecDepth 100000
set_option maxHeartbeats 16000000
namespace Go.Proofs.YtfhhnelffldggaaGreatDoor
open Go.RowKit Go.PlainAid
set_option linter.unusedVariables false
set_option linter.unusedSimpArgs false
theorem pickS (C B : Nat) (a : Option Addr) (len cap : Nat) (L : List ByteArray) (n g cp : Nat) (hn : L.length = n) (hl : 0 < n) (hl2 : n ≤ 1000) (w : World) (hC : Cur w C a len cap) (hB : B ≤ C) (hcode : CodeOk w B a len)
  (hg : g ≠ C) (hgl : g < w.heap.size) (hcell : ∀ j x, L[j]? = some x → w.cell? ⟨g, j, none⟩ = some (.string x)) :
  Calls Tryz.prog 163 #[.pointer (some ⟨C, 0, none⟩), .slice (some ⟨g, 0, none⟩) n cp] w fun e w' => ∃ x : ByteArray, e = .returned (.string x) ∧ x ∈ L ∧ Drawn w w' C B a len cap := by
 have HD0 : Hid (Drawn w w C B a len cap) := ⟨hC, hcode, World.grownBy.refl _ _⟩
 have HC := hq hcell
 have HN := hq hn
 clear hC hcode hcell hn
 go_enter Tryz.func163, Tryz.ntmps163
 go_wp2_with fail
 refine (below28 C B a len cap (n : Int) (by omega) (by omega) _ HD0.out.1 hB HD0.out.2.1).mono ?_
 rintro e w1 ⟨x, rfl, x0, x1, hD⟩
 obtain ⟨k, rfl⟩ := Int.eq_ofNat_of_zero_le x0
 have hk : k < L.length := by have := HN.out; omega
 have hx : L[k]? = some L[k] := List.getElem?_eq_getElem hk
 have hc : w1.cell? ⟨g, k, none⟩ = some (.string L[k]) := (hD.2.2.cell_far ⟨g, k, none⟩ hgl (fun e => by cases e; exact hg rfl)).trans (HC.out k _ hx)
 have HM : Hid (L[k] ∈ L) := List.getElem_mem hk
 have HD := hq hD
 clear hD HD0 hx
 generalize L[k] = t at *
 go_wp2
 go_ret
 exact ⟨_, rfl, HM.out, HD.out⟩
theorem laid_strs (w : World) (l : List ByteArray) (j : Nat) (x : ByteArray) (hj : l[j]? = some x) : (w.alloc (.cells (l.map Value.string).toArray 9)).cell? ⟨w.heap.size, j, none⟩ = some (.string x) := by
 rw [cell_of_row _ w.heap.size j _ 9 (0, 0) (heap_new w _)]
 simp [hj]
theorem drawn_belM {w W W' : World} {C B : Nat} {a : Option Addr} {len cap : Nat} (h : Drawn w W C B a len cap) (hB : B ≤ W.heap.size) (hb : Below W.heap.size W W') : Drawn w W' C B a len cap := by
 obtain ⟨⟨j, x, hj, hc⟩, hcode, hg⟩ := h
 refine ⟨⟨j, x, hj, ?_⟩, code_below hcode (hb.mono hB), ?_⟩
 ·
  unfold CurAt at hc ⊢
  rw [hb.block C (row_lt hc)]
  exact hc
 · exact ⟨hb.os.trans hg.os, hb.tape.trans hg.tape, hb.output.trans hg.output, Nat.le_trans hg.size hb.size, fun m hm hne => (hb.block m (Nat.lt_of_lt_of_le hm hg.size)).trans (hg.block m hm hne)⟩
theorem drawn_putM {w W W' : World} {C B k : Nat} {a : Option Addr} {len cap : Nat} {o : Obj} (h : Drawn w W C B a len cap) (hp : PutM W W' k o) (hk : w.heap.size ≤ k) (hC : C < w.heap.size) (hB : B ≤ C) : Drawn w W' C B a len cap := by
 obtain ⟨⟨j, x, hj, hc⟩, hcode, hg⟩ := h
 have hb := hp.2.2.2 0 W (Nat.zero_le _) (Below.refl _ _)
 have hb2 := hp.2.2.2 B W (by omega) (Below.refl _ _)
 refine ⟨⟨j, x, hj, ?_⟩, code_below hcode hb2, ?_⟩
 ·
  unfold CurAt at hc ⊢
  rw [hp.2.1 C (by omega)]
  exact hc
 · exact ⟨hb.os.trans hg.os, hb.tape.trans hg.tape, hb.output.trans hg.output, by rw [hp.2.2.1]; exact hg.size, fun m hm hne => (hp.2.1 m (by omega)).trans (hg.block m hm hne)⟩
theorem row_drawn {W W' : World} {k C : Nat} {o : Obj} (h : W.heap[k]? = some o) (hg : W.grownBy W' (some C)) (hk : k ≠ C) : W'.heap[k]? = some o :=
 (hg.block k (row_lt h) (fun e => by cases e; exact hk rfl)).trans h
def keyL : List ByteArray := [⟨#[98, 50, 10, 53, 10, 50, 48, 10]⟩, ⟨#[111, 57, 10]⟩, ⟨#[112]⟩, ⟨#[103]⟩, ⟨#[115]⟩, ⟨#[120]⟩, ⟨#[98, 51, 10, 49, 10]⟩, ⟨#[52, 48, 10]⟩, ⟨#[99]⟩, ⟨#[113]⟩, ⟨#[98, 48, 10]⟩]
theorem keyL_size : ∀ x ∈ keyL, x.size ≤ 8 := by
 intro x hx
 simp only [keyL, List.mem_cons, List.not_mem_nil, or_false] at hx
 rcases hx with rfl | rfl | rfl | rfl | rfl | rfl | rfl | rfl | rfl | rfl | rfl <;> decide
theorem ints_cells (w : World) (l : List Int) : ∀ j (hj : j < l.length), (w.alloc (.cells ((l.map (Value.int .i64)).toArray) 3)).cell? ⟨w.heap.size, j, none⟩ = some (.int .i64 l[j]) := by
 intro j hj
 rw [cell_of_row _ w.heap.size j _ 3 (0, 0) (heap_new w _)]
 simp [hj]
theorem keysD (C B : Nat) (a : Option Addr) (len cap : Nat) (w : World) (hC : Cur w C a len cap) (hB : B ≤ C) (hcode : CodeOk w B a len) :
  Calls Tryz.prog 125 #[.pointer (some ⟨C, 0, none⟩)] w fun e w' => ∃ S : ByteArray, e = .returned (.string S) ∧ S.size ≤ 16 ∧ Drawn w w' C B a len cap := by
 have hCl := cur_lt hC
 have HD0 : Hid (Drawn w w C B a len cap) := ⟨hC, hcode, World.grownBy.refl _ _⟩
 clear hC hcode
 go_enter Tryz.func125, Tryz.ntmps125
 go_wp2
 go_loopg [3, 4] 3 (fun gk s i wr => ∃ (j : Nat) (S : ByteArray), j + gk = 3 ∧ j ≤ 2 ∧ s = .string S ∧ i = .int .i64 j ∧ S.size ≤ 8 * j ∧ Hid (Drawn w wr C B a len cap))
 case atStart => exact ⟨0, ⟨#[]⟩, by omega, by omega, rfl, rfl, by decide, HD0⟩
 case round =>
  clear HD0
  obtain ⟨j, S, hj, hj2, rfl, rfl, hs, HD⟩ := hrel
  go_wp2_with fail
  refine (below28 C B a len cap 3 (by omega) (by omega) _ HD.out.1 hB HD.out.2.1).mono ?_
  rintro e w1 ⟨x, rfl, x0, x1, hD⟩
  have HD1 : Hid (Drawn w w1 C B a len cap) := drawn_trans HD.out hD
  clear hD HD
  by_cases hx : (j : Int) < x
  ·
   have hCl1 : C < w1.heap.size := Nat.lt_of_lt_of_le hCl HD1.out.2.2.size
   have HD2 : Hid (Drawn w (w1.alloc (.cells (keyL.map Value.string).toArray 9)) C B a len cap) := drawn_alloc HD1.out (by omega) _
   go_wp2_with fail
   refine (pickS C B a len cap keyL 11 w1.heap.size 11 rfl (by decide) (by decide) _ HD2.out.1 hB HD2.out.2.1 (by omega) (by simp) (laid_strs _ keyL)).mono ?_
   rintro e w3 ⟨x3, rfl, hx3, hD⟩
   have HD3 : Hid (Drawn w w3 C B a len cap) := drawn_trans HD2.out hD
   have hs3 := keyL_size x3 hx3
   have HS : Hid ((S ++ x3).size ≤ 8 * (j + 1)) := by show _ ≤ _; rw [ByteArray.size_append]; omega
   have hs16 : S.size ≤ 16 := by omega
   have qi : IntKind.i64.wrap ((j : Int) + 1) = (j : Int) + 1 := wrap_in (by omega) (by omega)
   clear hD HD1 HD2 hx3
   go_wp2
   go_roundg (gk - 1)
   case measure => omega
   case rel => exact ⟨j + 1, S ++ x3, by omega, by omega, rfl, by go_num, HS.out, HD3⟩
  ·
   have hs16 : S.size ≤ 16 := by omega
   go_wp2
   go_ret
   exact ⟨S, rfl, hs16, HD1.out⟩
structure LM (w W : World) (C B : Nat) (a : Option Addr) (len cap X : Nat) (M : Mn) : Prop where
 d : Drawn w W C B a len cap
 z : W.heap[w.heap.size]? = some (.cells #[.int .i64 0, .bool false, .int .i64 0, .int .i64 0, .string ⟨#[]⟩] 34)
 p : W.heap[X]? = some (.cells #[.int .i64 M.a, .bool M.b, .int .i64 M.n, .int .i64 M.d, .string ⟨M.s.toArray⟩] 34)
theorem LM.on {w W W' : World} {C B : Nat} {a : Option Addr} {len cap X : Nat} {M : Mn} (h : LM w W C B a len cap X M) (hd : Drawn W W' C B a len cap) (hX : X ≠ C) (hC : C < w.heap.size) : LM w W' C B a len cap X M :=
 ⟨drawn_trans h.d hd, row_drawn h.z hd.2.2 (by omega), row_drawn h.p hd.2.2 hX⟩
theorem LM.al {w W : World} {C B : Nat} {a : Option Addr} {len cap X : Nat} {M : Mn} (h : LM w W C B a len cap X M) (hB : B ≤ W.heap.size) (o : Obj) : LM w (W.alloc o) C B a len cap X M :=
 ⟨drawn_alloc h.d hB _, row_on h.z (alM _ _), row_on h.p (alM _ _)⟩
theorem LM.put {w W W' : World} {C B : Nat} {a : Option Addr} {len cap X : Nat} {M M' : Mn} (h : LM w W C B a len cap X M) (hp : PutM W W' X (.cells #[.int .i64 M'.a, .bool M'.b, .int .i64 M'.n, .int .i64 M'.d, .string ⟨M'.s.toArray⟩] 34)) (hX : w.heap.size < X) (hC : C < w.heap.size) (hB : B ≤ C) : LM w W' C B a len cap X M' :=
 ⟨drawn_putM h.d hp (by omega) hC hB, hp.far h.z (by omega), hp.1⟩
theorem takeS_1_0 (n d r l b g k N D V : Int) (hp : Pm.ok ⟨0, n, d, r, l, b, g, k⟩) (ho : OrdR 1 N D V) (w : World) : Calls Tryz.prog 52 #[PV 0 n d r l b g k, .agg #[.int .i64 1, .int .i64 N, .int .i64 D, .int .i64 V]] w fun e w' => e = .returned (.tuple #[(Pm.take ⟨0, n, d, r, l, b, g, k⟩ 1 N D V).1.V, .bool (Pm.take ⟨0, n, d, r, l, b, g, k⟩ 1 N D V).2]) ∧ Below w.heap.size w w' := by
 have HT : Hid (Pm.take ⟨0, n, d, r, l, b, g, k⟩ 1 N D V = (⟨1, N, D, 0, V, b, g, k⟩, true)) := by show _ = _; unfold Pm.take; rw [or_yes ho, ok_yes hp]; simp
 have KP := kpS hp
 have KO := koS ho
 clear hp ho
 obtain ⟨HB0, HP0, HO0, HZ0⟩ := t4s w (PB 0 n d r l b g k) (oB 1 N D V) (PB 0 0 0 0 0 0 0 0)
 have p0 := box8_cells HP0.out
 have o0 := box4_cells HO0.out
 go_enter Tryz.func52, Tryz.ntmps52
 go_wp2_with fail
 refine (KP.out _).mono ?_
 rintro e w1 ⟨rfl, hb1⟩
 obtain ⟨HB1, HP1, HO1, HZ1⟩ := t4o HB0 HP0 HO0 HZ0 hb1
 have p1 := box8_cells HP1.out
 have o1 := box4_cells HO1.out
 have z1 := box8_cells HZ1.out
 clear hb1 HB0 HP0 HO0 HZ0 p0 o0
 go_wp2_with fail
 refine (KO.out _).mono ?_
 rintro e w2 ⟨rfl, hb2⟩
 obtain ⟨HB2, HP2, HO2, HZ2⟩ := t4o HB1 HP1 HO1 HZ1 hb2
 have p2 := box8_cells HP2.out
 have o2 := box4_cells HO2.out
 have z2 := box8_cells HZ2.out
 have hl2 := row_lt HZ2.out
 clear hb2 HB1 HP1 HO1 HZ1 p1 o1 z1
 obtain ⟨HN2, HPa, HOa, HZa, HBa⟩ := t4a HB2 HP2 HO2 HZ2 (PB 0 0 0 0 0 0 0 0)
 go_wp2_with (refine listStoreP rfl rfl _ _ _ rfl rfl w2.heap.size (0) (n) (d) (r) (l) (b) (g) (k) rfl rfl HN2.out ?_)
 intro w3 hr3 ho3 hs3 hB3
 have hl3 : w.heap.size ≤ w2.heap.size := by omega
 have HB3 : Hid (Below w.heap.size w w3) := hB3 _ _ hl3 HBa.out
 have HN3 := hq hr3
 obtain ⟨HP3, HO3, HZ3⟩ := t4p HPa HOa HZa hl2 ho3
 have p3 := box8_cells HP3.out
 have o3 := box4_cells HO3.out
 have n3 := box8_cells HN3.out
 clear hr3 ho3 hs3 hB3 HN2 HPa HOa HZa HBa HP2 HO2 HZ2 HB2 p2 o2 z2
 go_upto_region 9 with fail
 go_wp2_with (refine listStoreC rfl rfl _ _ _ rfl rfl w2.heap.size 0 (1) rfl rfl HN3.out (by simp) ?_)
 intro w30 hr ho hs hB
 have HB30 : Hid (Below w.heap.size w w30) := hB _ _ hl3 HB3.out
 have HN30 := hq hr
 have HP30 := hq ((ho _ (by omega)).trans HP3.out)
 have HO30 := hq ((ho _ (by omega)).trans HO3.out)
 have HZ30 := hq ((ho _ (by omega)).trans HZ3.out)
 have p30 := box8_cells HP30.out
 have o30 := box4_cells HO30.out
 have n30 := box8_cells HN30.out
 clear hr ho hs hB HB3 HN3 HP3 HO3 HZ3 p3 o3 n3
 go_upto_region 10 with fail
 go_wp2_with (refine listStoreR rfl rfl _ _ _ rfl rfl w2.heap.size (N) (D) (0) rfl rfl HN30.out ?_)
 intro w31 hr ho hs hB
 have HB31 : Hid (Below w.heap.size w w31) := hB _ _ hl3 HB30.out
 have HN31 := hq hr
 have HP31 := hq ((ho _ (by omega)).trans HP30.out)
 have HO31 := hq ((ho _ (by omega)).trans HO30.out)
 have HZ31 := hq ((ho _ (by omega)).trans HZ30.out)
 have p31 := box8_cells HP31.out
 have o31 := box4_cells HO31.out
 have n31 := box8_cells HN31.out
 clear hr ho hs hB HB30 HN30 HP30 HO30 HZ30 p30 o30 n30
 go_upto_region 11 with fail
 go_wp2_with (refine listStoreC rfl rfl _ _ _ rfl rfl w2.heap.size 4 (V) rfl rfl HN31.out (by simp) ?_)
 intro w32 hr ho hs hB
 have HB32 : Hid (Below w.heap.size w w32) := hB _ _ hl3 HB31.out
 have HN32 := hq hr
 have HP32 := hq ((ho _ (by omega)).trans HP31.out)
 have HO32 := hq ((ho _ (by omega)).trans HO31.out)
 have HZ32 := hq ((ho _ (by omega)).trans HZ31.out)
 have p32 := box8_cells HP32.out
 have o32 := box4_cells HO32.out
 have n32 := box8_cells HN32.out
 clear hr ho hs hB HB31 HN31 HP31 HO31 HZ31 p31 o31 n31
 have HB4 := hq HB32.out
 have HZ4 := hq HZ32.out
 go_upto_region 31 with fail
 go_wp2_with (refine listStoreP rfl rfl _ _ _ rfl rfl (w.heap.size + 1 + 1) (1) (N) (D) (0) (V) (b) (g) (k) rfl rfl HZ4.out ?_)
 intro w9 hr9 ho9 hs9 hB9
 have HF := hq (hB9 _ _ (le2 _) HB4.out)
 have HRf := hq hr9
 clear ho9 hs9 hB9 hr9
 obtain ⟨⟨q0, q1, q2, q3, q4, q5, q6, q7⟩, _⟩ := box8_cells HRf.out
 go_wp2
 refine bodyPost_ret (v := .tuple #[PV 1 N D 0 V b g k, .bool true]) (by simp only [results, Tryz.results52]; simp [go_sem, q0, q1, q2, q3, q4, q5, q6, q7]) rfl ⟨by rw [HT.out]; rfl, HF.out⟩
theorem takeS_1_1 (n d r l b g k N D V : Int) (hp : Pm.ok ⟨1, n, d, r, l, b, g, k⟩) (ho : OrdR 1 N D V) (w : World) : Calls Tryz.prog 52 #[PV 1 n d r l b g k, .agg #[.int .i64 1, .int .i64 N, .int .i64 D, .int .i64 V]] w fun e w' => e = .returned (.tuple #[(Pm.take ⟨1, n, d, r, l, b, g, k⟩ 1 N D V).1.V, .bool (Pm.take ⟨1, n, d, r, l, b, g, k⟩ 1 N D V).2]) ∧ Below w.heap.size w w' := by
 have HT : Hid (Pm.take ⟨1, n, d, r, l, b, g, k⟩ 1 N D V = (⟨1, n, d, r, l, b, g, k⟩, false)) := by show _ = _; unfold Pm.take; rw [or_yes ho, ok_yes hp]; simp
 have KP := kpS hp
 have KO := koS ho
 clear hp ho
 obtain ⟨HB0, HP0, HO0, HZ0⟩ := t4s w (PB 1 n d r l b g k) (oB 1 N D V) (PB 0 0 0 0 0 0 0 0)
 have p0 := box8_cells HP0.out
 have o0 := box4_cells HO0.out
 go_enter Tryz.func52, Tryz.ntmps52
 go_wp2_with fail
 refine (KP.out _).mono ?_
 rintro e w1 ⟨rfl, hb1⟩
 obtain ⟨HB1, HP1, HO1, HZ1⟩ := t4o HB0 HP0 HO0 HZ0 hb1
 have p1 := box8_cells HP1.out
 have o1 := box4_cells HO1.out
 have z1 := box8_cells HZ1.out
 clear hb1 HB0 HP0 HO0 HZ0 p0 o0
 go_wp2_with fail
 refine (KO.out _).mono ?_
 rintro e w2 ⟨rfl, hb2⟩
 obtain ⟨HB2, HP2, HO2, HZ2⟩ := t4o HB1 HP1 HO1 HZ1 hb2
 have p2 := box8_cells HP2.out
 have o2 := box4_cells HO2.out
 have z2 := box8_cells HZ2.out
 have hl2 := row_lt HZ2.out
 clear hb2 HB1 HP1 HO1 HZ1 p1 o1 z1
 obtain ⟨HN2, HPa, HOa, HZa, HBa⟩ := t4a HB2 HP2 HO2 HZ2 (PB 0 0 0 0 0 0 0 0)
 go_wp2_with (refine listStoreP rfl rfl _ _ _ rfl rfl w2.heap.size (1) (n) (d) (r) (l) (b) (g) (k) rfl rfl HN2.out ?_)
 intro w3 hr3 ho3 hs3 hB3
 have hl3 : w.heap.size ≤ w2.heap.size := by omega
 have HB3 : Hid (Below w.heap.size w w3) := hB3 _ _ hl3 HBa.out
 have HN3 := hq hr3
 obtain ⟨HP3, HO3, HZ3⟩ := t4p HPa HOa HZa hl2 ho3
 have p3 := box8_cells HP3.out
 have o3 := box4_cells HO3.out
 have n3 := box8_cells HN3.out
 clear hr3 ho3 hs3 hB3 HN2 HPa HOa HZa HBa HP2 HO2 HZ2 HB2 p2 o2 z2
 have HB4 := hq HB3.out
 have HZ4 := hq HZ3.out
 go_upto_region 8 with fail
 go_wp2_with (refine listStoreP rfl rfl _ _ _ rfl rfl (w.heap.size + 1 + 1) (1) (n) (d) (r) (l) (b) (g) (k) rfl rfl HZ4.out ?_)
 intro w9 hr9 ho9 hs9 hB9
 have HF := hq (hB9 _ _ (le2 _) HB4.out)
 have HRf := hq hr9
 clear ho9 hs9 hB9 hr9
 obtain ⟨⟨q0, q1, q2, q3, q4, q5, q6, q7⟩, _⟩ := box8_cells HRf.out
 go_wp2
 refine bodyPost_ret (v := .tuple #[PV 1 n d r l b g k, .bool false]) (by simp only [results, Tryz.results52]; simp [go_sem, q0, q1, q2, q3, q4, q5, q6, q7]) rfl ⟨by rw [HT.out]; rfl, HF.out⟩
theorem takeS_1_2 (n d r l b g k N D V : Int) (hp : Pm.ok ⟨2, n, d, r, l, b, g, k⟩) (ho : OrdR 1 N D V) (w : World) : Calls Tryz.prog 52 #[PV 2 n d r l b g k, .agg #[.int .i64 1, .int .i64 N, .int .i64 D, .int .i64 V]] w fun e w' => e = .returned (.tuple #[(Pm.take ⟨2, n, d, r, l, b, g, k⟩ 1 N D V).1.V, .bool (Pm.take ⟨2, n, d, r, l, b, g, k⟩ 1 N D V).2]) ∧ Below w.heap.size w w' := by
 have HT : Hid (Pm.take ⟨2, n, d, r, l, b, g, k⟩ 1 N D V = (⟨1, N, D, 0, V, b, g, k⟩, true)) := by show _ = _; unfold Pm.take; rw [or_yes ho, ok_yes hp]; simp
 have KP := kpS hp
 have KO := koS ho
 clear hp ho
 obtain ⟨HB0, HP0, HO0, HZ0⟩ := t4s w (PB 2 n d r l b g k) (oB 1 N D V) (PB 0 0 0 0 0 0 0 0)
 have p0 := box8_cells HP0.out
 have o0 := box4_cells HO0.out
 go_enter Tryz.func52, Tryz.ntmps52
 go_wp2_with fail
 refine (KP.out _).mono ?_
 rintro e w1 ⟨rfl, hb1⟩
 obtain ⟨HB1, HP1, HO1, HZ1⟩ := t4o HB0 HP0 HO0 HZ0 hb1
 have p1 := box8_cells HP1.out
 have o1 := box4_cells HO1.out
 have z1 := box8_cells HZ1.out
 clear hb1 HB0 HP0 HO0 HZ0 p0 o0
 go_wp2_with fail
 refine (KO.out _).mono ?_
 rintro e w2 ⟨rfl, hb2⟩
 obtain ⟨HB2, HP2, HO2, HZ2⟩ := t4o HB1 HP1 HO1 HZ1 hb2
 have p2 := box8_cells HP2.out
 have o2 := box4_cells HO2.out
 have z2 := box8_cells HZ2.out
 have hl2 := row_lt HZ2.out
 clear hb2 HB1 HP1 HO1 HZ1 p1 o1 z1
 obtain ⟨HN2, HPa, HOa, HZa, HBa⟩ := t4a HB2 HP2 HO2 HZ2 (PB 0 0 0 0 0 0 0 0)
 go_wp2_with (refine listStoreP rfl rfl _ _ _ rfl rfl w2.heap.size (2) (n) (d) (r) (l) (b) (g) (k) rfl rfl HN2.out ?_)
 intro w3 hr3 ho3 hs3 hB3
 have hl3 : w.heap.size ≤ w2.heap.size := by omega
 have HB3 : Hid (Below w.heap.size w w3) := hB3 _ _ hl3 HBa.out
 have HN3 := hq hr3
 obtain ⟨HP3, HO3, HZ3⟩ := t4p HPa HOa HZa hl2 ho3
 have p3 := box8_cells HP3.out
 have o3 := box4_cells HO3.out
 have n3 := box8_cells HN3.out
 clear hr3 ho3 hs3 hB3 HN2 HPa HOa HZa HBa HP2 HO2 HZ2 HB2 p2 o2 z2
 go_upto_region 9 with fail
 go_wp2_with (refine listStoreC rfl rfl _ _ _ rfl rfl w2.heap.size 0 (1) rfl rfl HN3.out (by simp) ?_)
 intro w30 hr ho hs hB
 have HB30 : Hid (Below w.heap.size w w30) := hB _ _ hl3 HB3.out
 have HN30 := hq hr
 have HP30 := hq ((ho _ (by omega)).trans HP3.out)
 have HO30 := hq ((ho _ (by omega)).trans HO3.out)
 have HZ30 := hq ((ho _ (by omega)).trans HZ3.out)
 have p30 := box8_cells HP30.out
 have o30 := box4_cells HO30.out
 have n30 := box8_cells HN30.out
 clear hr ho hs hB HB3 HN3 HP3 HO3 HZ3 p3 o3 n3
 go_upto_region 10 with fail
 go_wp2_with (refine listStoreR rfl rfl _ _ _ rfl rfl w2.heap.size (N) (D) (0) rfl rfl HN30.out ?_)
 intro w31 hr ho hs hB
 have HB31 : Hid (Below w.heap.size w w31) := hB _ _ hl3 HB30.out
 have HN31 := hq hr
 have HP31 := hq ((ho _ (by omega)).trans HP30.out)
 have HO31 := hq ((ho _ (by omega)).trans HO30.out)
 have HZ31 := hq ((ho _ (by omega)).trans HZ30.out)
 have p31 := box8_cells HP31.out
 have o31 := box4_cells HO31.out
 have n31 := box8_cells HN31.out
 clear hr ho hs hB HB30 HN30 HP30 HO30 HZ30 p30 o30 n30
 go_upto_region 11 with fail
 go_wp2_with (refine listStoreC rfl rfl _ _ _ rfl rfl w2.heap.size 4 (V) rfl rfl HN31.out (by simp) ?_)
 intro w32 hr ho hs hB
 have HB32 : Hid (Below w.heap.size w w32) := hB _ _ hl3 HB31.out
 have HN32 := hq hr
 have HP32 := hq ((ho _ (by omega)).trans HP31.out)
 have HO32 := hq ((ho _ (by omega)).trans HO31.out)
 have HZ32 := hq ((ho _ (by omega)).trans HZ31.out)
 have p32 := box8_cells HP32.out
 have o32 := box4_cells HO32.out
 have n32 := box8_cells HN32.out
 clear hr ho hs hB HB31 HN31 HP31 HO31 HZ31 p31 o31 n31
 have HB4 := hq HB32.out
 have HZ4 := hq HZ32.out
 go_upto_region 31 with fail
 go_wp2_with (refine listStoreP rfl rfl _ _ _ rfl rfl (w.heap.size + 1 + 1) (1) (N) (D) (0) (V) (b) (g) (k) rfl rfl HZ4.out ?_)
 intro w9 hr9 ho9 hs9 hB9
 have HF := hq (hB9 _ _ (le2 _) HB4.out)
 have HRf := hq hr9
 clear ho9 hs9 hB9 hr9
 obtain ⟨⟨q0, q1, q2, q3, q4, q5, q6, q7⟩, _⟩ := box8_cells HRf.out
 go_wp2
 refine bodyPost_ret (v := .tuple #[PV 1 N D 0 V b g k, .bool true]) (by simp only [results, Tryz.results52]; simp [go_sem, q0, q1, q2, q3, q4, q5, q6, q7]) rfl ⟨by rw [HT.out]; rfl, HF.out⟩
theorem takeS_1_3 (n d r l b g k N D V : Int) (hp : Pm.ok ⟨3, n, d, r, l, b, g, k⟩) (ho : OrdR 1 N D V) (w : World) : Calls Tryz.prog 52 #[PV 3 n d r l b g k, .agg #[.int .i64 1, .int .i64 N, .int .i64 D, .int .i64 V]] w fun e w' => e = .returned (.tuple #[(Pm.take ⟨3, n, d, r, l, b, g, k⟩ 1 N D V).1.V, .bool (Pm.take ⟨3, n, d, r, l, b, g, k⟩ 1 N D V).2]) ∧ Below w.heap.size w w' := by
 have HT : Hid (Pm.take ⟨3, n, d, r, l, b, g, k⟩ 1 N D V = (⟨3, n, d, r, l, b, g, k⟩, false)) := by show _ = _; unfold Pm.take; rw [or_yes ho, ok_yes hp]; simp
 have KP := kpS hp
 have KO := koS ho
 clear hp ho
 obtain ⟨HB0, HP0, HO0, HZ0⟩ := t4s w (PB 3 n d r l b g k) (oB 1 N D V) (PB 0 0 0 0 0 0 0 0)
 have p0 := box8_cells HP0.out
 have o0 := box4_cells HO0.out
 go_enter Tryz.func52, Tryz.ntmps52
 go_wp2_with fail
 refine (KP.out _).mono ?_
 rintro e w1 ⟨rfl, hb1⟩
 obtain ⟨HB1, HP1, HO1, HZ1⟩ := t4o HB0 HP0 HO0 HZ0 hb1
 have p1 := box8_cells HP1.out
 have o1 := box4_cells HO1.out
 have z1 := box8_cells HZ1.out
 clear hb1 HB0 HP0 HO0 HZ0 p0 o0
 go_wp2_with fail
 refine (KO.out _).mono ?_
 rintro e w2 ⟨rfl, hb2⟩
 obtain ⟨HB2, HP2, HO2, HZ2⟩ := t4o HB1 HP1 HO1 HZ1 hb2
 have p2 := box8_cells HP2.out
 have o2 := box4_cells HO2.out
 have z2 := box8_cells HZ2.out
 have hl2 := row_lt HZ2.out
 clear hb2 HB1 HP1 HO1 HZ1 p1 o1 z1
 obtain ⟨HN2, HPa, HOa, HZa, HBa⟩ := t4a HB2 HP2 HO2 HZ2 (PB 0 0 0 0 0 0 0 0)
 go_wp2_with (refine listStoreP rfl rfl _ _ _ rfl rfl w2.heap.size (3) (n) (d) (r) (l) (b) (g) (k) rfl rfl HN2.out ?_)
 intro w3 hr3 ho3 hs3 hB3
 have hl3 : w.heap.size ≤ w2.heap.size := by omega
 have HB3 : Hid (Below w.heap.size w w3) := hB3 _ _ hl3 HBa.out
 have HN3 := hq hr3
 obtain ⟨HP3, HO3, HZ3⟩ := t4p HPa HOa HZa hl2 ho3
 have p3 := box8_cells HP3.out
 have o3 := box4_cells HO3.out
 have n3 := box8_cells HN3.out
 clear hr3 ho3 hs3 hB3 HN2 HPa HOa HZa HBa HP2 HO2 HZ2 HB2 p2 o2 z2
 have HB4 := hq HB3.out
 have HZ4 := hq HZ3.out
 go_upto_region 8 with fail
 go_wp2_with (refine listStoreP rfl rfl _ _ _ rfl rfl (w.heap.size + 1 + 1) (3) (n) (d) (r) (l) (b) (g) (k) rfl rfl HZ4.out ?_)
 intro w9 hr9 ho9 hs9 hB9
 have HF := hq (hB9 _ _ (le2 _) HB4.out)
 have HRf := hq hr9
 clear ho9 hs9 hB9 hr9
 obtain ⟨⟨q0, q1, q2, q3, q4, q5, q6, q7⟩, _⟩ := box8_cells HRf.out
 go_wp2
 refine bodyPost_ret (v := .tuple #[PV 3 n d r l b g k, .bool false]) (by simp only [results, Tryz.results52]; simp [go_sem, q0, q1, q2, q3, q4, q5, q6, q7]) rfl ⟨by rw [HT.out]; rfl, HF.out⟩
theorem takeS_2_0 (n d r l b g k N D V : Int) (hp : Pm.ok ⟨0, n, d, r, l, b, g, k⟩) (ho : OrdR 2 N D V) (w : World) : Calls Tryz.prog 52 #[PV 0 n d r l b g k, .agg #[.int .i64 2, .int .i64 N, .int .i64 D, .int .i64 V]] w fun e w' => e = .returned (.tuple #[(Pm.take ⟨0, n, d, r, l, b, g, k⟩ 2 N D V).1.V, .bool (Pm.take ⟨0, n, d, r, l, b, g, k⟩ 2 N D V).2]) ∧ Below w.heap.size w w' := by
 have HT : Hid (Pm.take ⟨0, n, d, r, l, b, g, k⟩ 2 N D V = (⟨0, n, d, r, l, b, g, k⟩, false)) := by show _ = _; unfold Pm.take; rw [or_yes ho, ok_yes hp]; simp
 have KP := kpS hp
 have KO := koS ho
 clear hp ho
 obtain ⟨HB0, HP0, HO0, HZ0⟩ := t4s w (PB 0 n d r l b g k) (oB 2 N D V) (PB 0 0 0 0 0 0 0 0)
 have p0 := box8_cells HP0.out
 have o0 := box4_cells HO0.out
 go_enter Tryz.func52, Tryz.ntmps52
 go_wp2_with fail
 refine (KP.out _).mono ?_
 rintro e w1 ⟨rfl, hb1⟩
 obtain ⟨HB1, HP1, HO1, HZ1⟩ := t4o HB0 HP0 HO0 HZ0 hb1
 have p1 := box8_cells HP1.out
 have o1 := box4_cells HO1.out
 have z1 := box8_cells HZ1.out
 clear hb1 HB0 HP0 HO0 HZ0 p0 o0
 go_wp2_with fail
 refine (KO.out _).mono ?_
 rintro e w2 ⟨rfl, hb2⟩
 obtain ⟨HB2, HP2, HO2, HZ2⟩ := t4o HB1 HP1 HO1 HZ1 hb2
 have p2 := box8_cells HP2.out
 have o2 := box4_cells HO2.out
 have z2 := box8_cells HZ2.out
 have hl2 := row_lt HZ2.out
 clear hb2 HB1 HP1 HO1 HZ1 p1 o1 z1
 obtain ⟨HN2, HPa, HOa, HZa, HBa⟩ := t4a HB2 HP2 HO2 HZ2 (PB 0 0 0 0 0 0 0 0)
 go_wp2_with (refine listStoreP rfl rfl _ _ _ rfl rfl w2.heap.size (0) (n) (d) (r) (l) (b) (g) (k) rfl rfl HN2.out ?_)
 intro w3 hr3 ho3 hs3 hB3
 have hl3 : w.heap.size ≤ w2.heap.size := by omega
 have HB3 : Hid (Below w.heap.size w w3) := hB3 _ _ hl3 HBa.out
 have HN3 := hq hr3
 obtain ⟨HP3, HO3, HZ3⟩ := t4p HPa HOa HZa hl2 ho3
 have p3 := box8_cells HP3.out
 have o3 := box4_cells HO3.out
 have n3 := box8_cells HN3.out
 clear hr3 ho3 hs3 hB3 HN2 HPa HOa HZa HBa HP2 HO2 HZ2 HB2 p2 o2 z2
 have HB4 := hq HB3.out
 have HZ4 := hq HZ3.out
 go_upto_region 14 with fail
 go_wp2_with (refine listStoreP rfl rfl _ _ _ rfl rfl (w.heap.size + 1 + 1) (0) (n) (d) (r) (l) (b) (g) (k) rfl rfl HZ4.out ?_)
 intro w9 hr9 ho9 hs9 hB9
 have HF := hq (hB9 _ _ (le2 _) HB4.out)
 have HRf := hq hr9
 clear ho9 hs9 hB9 hr9
 obtain ⟨⟨q0, q1, q2, q3, q4, q5, q6, q7⟩, _⟩ := box8_cells HRf.out
 go_wp2
 refine bodyPost_ret (v := .tuple #[PV 0 n d r l b g k, .bool false]) (by simp only [results, Tryz.results52]; simp [go_sem, q0, q1, q2, q3, q4, q5, q6, q7]) rfl ⟨by rw [HT.out]; rfl, HF.out⟩
theorem takeS_2_1b0 (n d r l g k N D V : Int) (hp : Pm.ok ⟨1, n, d, r, l, 0, g, k⟩) (ho : OrdR 2 N D V) (w : World) : Calls Tryz.prog 52 #[PV 1 n d r l 0 g k, .agg #[.int .i64 2, .int .i64 N, .int .i64 D, .int .i64 V]] w fun e w' => e = .returned (.tuple #[(Pm.take ⟨1, n, d, r, l, 0, g, k⟩ 2 N D V).1.V, .bool (Pm.take ⟨1, n, d, r, l, 0, g, k⟩ 2 N D V).2]) ∧ Below w.heap.size w w' := by
 have HT : Hid (Pm.take ⟨1, n, d, r, l, 0, g, k⟩ 2 N D V = (⟨1, n, d, r, l, V, g, k⟩, true)) := by show _ = _; unfold Pm.take; rw [or_yes ho, ok_yes hp]; simp
 have KP := kpS hp
 have KO := koS ho
 clear hp ho
 obtain ⟨HB0, HP0, HO0, HZ0⟩ := t4s w (PB 1 n d r l 0 g k) (oB 2 N D V) (PB 0 0 0 0 0 0 0 0)
 have p0 := box8_cells HP0.out
 have o0 := box4_cells HO0.out
 go_enter Tryz.func52, Tryz.ntmps52
 go_wp2_with fail
 refine (KP.out _).mono ?_
 rintro e w1 ⟨rfl, hb1⟩
 obtain ⟨HB1, HP1, HO1, HZ1⟩ := t4o HB0 HP0 HO0 HZ0 hb1
 have p1 := box8_cells HP1.out
 have o1 := box4_cells HO1.out
 have z1 := box8_cells HZ1.out
 clear hb1 HB0 HP0 HO0 HZ0 p0 o0
 go_wp2_with fail
 refine (KO.out _).mono ?_
 rintro e w2 ⟨rfl, hb2⟩
 obtain ⟨HB2, HP2, HO2, HZ2⟩ := t4o HB1 HP1 HO1 HZ1 hb2
 have p2 := box8_cells HP2.out
 have o2 := box4_cells HO2.out
 have z2 := box8_cells HZ2.out
 have hl2 := row_lt HZ2.out
 clear hb2 HB1 HP1 HO1 HZ1 p1 o1 z1
 obtain ⟨HN2, HPa, HOa, HZa, HBa⟩ := t4a HB2 HP2 HO2 HZ2 (PB 0 0 0 0 0 0 0 0)
 go_wp2_with (refine listStoreP rfl rfl _ _ _ rfl rfl w2.heap.size (1) (n) (d) (r) (l) (0) (g) (k) rfl rfl HN2.out ?_)
 intro w3 hr3 ho3 hs3 hB3
 have hl3 : w.heap.size ≤ w2.heap.size := by omega
 have HB3 : Hid (Below w.heap.size w w3) := hB3 _ _ hl3 HBa.out
 have HN3 := hq hr3
 obtain ⟨HP3, HO3, HZ3⟩ := t4p HPa HOa HZa hl2 ho3
 have p3 := box8_cells HP3.out
 have o3 := box4_cells HO3.out
 have n3 := box8_cells HN3.out
 clear hr3 ho3 hs3 hB3 HN2 HPa HOa HZa HBa HP2 HO2 HZ2 HB2 p2 o2 z2
 go_upto_region 15 with fail
 go_wp2_with (refine listStoreC rfl rfl _ _ _ rfl rfl w2.heap.size 5 (V) rfl rfl HN3.out (by simp) ?_)
 intro w30 hr ho hs hB
 have HB30 : Hid (Below w.heap.size w w30) := hB _ _ hl3 HB3.out
 have HN30 := hq hr
 have HP30 := hq ((ho _ (by omega)).trans HP3.out)
 have HO30 := hq ((ho _ (by omega)).trans HO3.out)
 have HZ30 := hq ((ho _ (by omega)).trans HZ3.out)
 have p30 := box8_cells HP30.out
 have o30 := box4_cells HO30.out
 have n30 := box8_cells HN30.out
 clear hr ho hs hB HB3 HN3 HP3 HO3 HZ3 p3 o3 n3
 have HB4 := hq HB30.out
 have HZ4 := hq HZ30.out
 go_upto_region 31 with fail
 go_wp2_with (refine listStoreP rfl rfl _ _ _ rfl rfl (w.heap.size + 1 + 1) (1) (n) (d) (r) (l) (V) (g) (k) rfl rfl HZ4.out ?_)
 intro w9 hr9 ho9 hs9 hB9
 have HF := hq (hB9 _ _ (le2 _) HB4.out)
 have HRf := hq hr9
 clear ho9 hs9 hB9 hr9
 obtain ⟨⟨q0, q1, q2, q3, q4, q5, q6, q7⟩, _⟩ := box8_cells HRf.out
 go_wp2
 refine bodyPost_ret (v := .tuple #[PV 1 n d r l V g k, .bool true]) (by simp only [results, Tryz.results52]; simp [go_sem, q0, q1, q2, q3, q4, q5, q6, q7]) rfl ⟨by rw [HT.out]; rfl, HF.out⟩
theorem takeS_2_1b1 (n d r l b g k N D V : Int) (hp : Pm.ok ⟨1, n, d, r, l, b, g, k⟩) (ho : OrdR 2 N D V) (hb0 : 0 < b) (w : World) : Calls Tryz.prog 52 #[PV 1 n d r l b g k, .agg #[.int .i64 2, .int .i64 N, .int .i64 D, .int .i64 V]] w fun e w' => e = .returned (.tuple #[(Pm.take ⟨1, n, d, r, l, b, g, k⟩ 2 N D V).1.V, .bool (Pm.take ⟨1, n, d, r, l, b, g, k⟩ 2 N D V).2]) ∧ Below w.heap.size w w' := by
 have HT : Hid (Pm.take ⟨1, n, d, r, l, b, g, k⟩ 2 N D V = (⟨1, n, d, r, l, b, g, k⟩, false)) := by show _ = _; unfold Pm.take; rw [or_yes ho, ok_yes hp]; simp [hb0]
 have KP := kpS hp
 have KO := koS ho
 clear hp ho
 obtain ⟨HB0, HP0, HO0, HZ0⟩ := t4s w (PB 1 n d r l b g k) (oB 2 N D V) (PB 0 0 0 0 0 0 0 0)
 have p0 := box8_cells HP0.out
 have o0 := box4_cells HO0.out
 go_enter Tryz.func52, Tryz.ntmps52
 go_wp2_with fail
 refine (KP.out _).mono ?_
 rintro e w1 ⟨rfl, hb1⟩
 obtain ⟨HB1, HP1, HO1, HZ1⟩ := t4o HB0 HP0 HO0 HZ0 hb1
 have p1 := box8_cells HP1.out
 have o1 := box4_cells HO1.out
 have z1 := box8_cells HZ1.out
 clear hb1 HB0 HP0 HO0 HZ0 p0 o0
 go_wp2_with fail
 refine (KO.out _).mono ?_
 rintro e w2 ⟨rfl, hb2⟩
 obtain ⟨HB2, HP2, HO2, HZ2⟩ := t4o HB1 HP1 HO1 HZ1 hb2
 have p2 := box8_cells HP2.out
 have o2 := box4_cells HO2.out
 have z2 := box8_cells HZ2.out
 have hl2 := row_lt HZ2.out
 clear hb2 HB1 HP1 HO1 HZ1 p1 o1 z1
 obtain ⟨HN2, HPa, HOa, HZa, HBa⟩ := t4a HB2 HP2 HO2 HZ2 (PB 0 0 0 0 0 0 0 0)
 go_wp2_with (refine listStoreP rfl rfl _ _ _ rfl rfl w2.heap.size (1) (n) (d) (r) (l) (b) (g) (k) rfl rfl HN2.out ?_)
 intro w3 hr3 ho3 hs3 hB3
 have hl3 : w.heap.size ≤ w2.heap.size := by omega
 have HB3 : Hid (Below w.heap.size w w3) := hB3 _ _ hl3 HBa.out
 have HN3 := hq hr3
 obtain ⟨HP3, HO3, HZ3⟩ := t4p HPa HOa HZa hl2 ho3
 have p3 := box8_cells HP3.out
 have o3 := box4_cells HO3.out
 have n3 := box8_cells HN3.out
 clear hr3 ho3 hs3 hB3 HN2 HPa HOa HZa HBa HP2 HO2 HZ2 HB2 p2 o2 z2
 have HB4 := hq HB3.out
 have HZ4 := hq HZ3.out
 go_upto_region 14 with fail
 go_wp2_with (refine listStoreP rfl rfl _ _ _ rfl rfl (w.heap.size + 1 + 1) (1) (n) (d) (r) (l) (b) (g) (k) rfl rfl HZ4.out ?_)
 intro w9 hr9 ho9 hs9 hB9
 have HF := hq (hB9 _ _ (le2 _) HB4.out)
 have HRf := hq hr9
 clear ho9 hs9 hB9 hr9
 obtain ⟨⟨q0, q1, q2, q3, q4, q5, q6, q7⟩, _⟩ := box8_cells HRf.out
 go_wp2
 refine bodyPost_ret (v := .tuple #[PV 1 n d r l b g k, .bool false]) (by simp only [results, Tryz.results52]; simp [go_sem, q0, q1, q2, q3, q4, q5, q6, q7]) rfl ⟨by rw [HT.out]; rfl, HF.out⟩
theorem takeS_2_2b0 (n d r l g k N D V : Int) (hp : Pm.ok ⟨2, n, d, r, l, 0, g, k⟩) (ho : OrdR 2 N D V) (w : World) : Calls Tryz.prog 52 #[PV 2 n d r l 0 g k, .agg #[.int .i64 2, .int .i64 N, .int .i64 D, .int .i64 V]] w fun e w' => e = .returned (.tuple #[(Pm.take ⟨2, n, d, r, l, 0, g, k⟩ 2 N D V).1.V, .bool (Pm.take ⟨2, n, d, r, l, 0, g, k⟩ 2 N D V).2]) ∧ Below w.heap.size w w' := by
 have HT : Hid (Pm.take ⟨2, n, d, r, l, 0, g, k⟩ 2 N D V = (⟨2, n, d, r, l, V, g, k⟩, true)) := by show _ = _; unfold Pm.take; rw [or_yes ho, ok_yes hp]; simp
 have KP := kpS hp
 have KO := koS ho
 clear hp ho
 obtain ⟨HB0, HP0, HO0, HZ0⟩ := t4s w (PB 2 n d r l 0 g k) (oB 2 N D V) (PB 0 0 0 0 0 0 0 0)
 have p0 := box8_cells HP0.out
 have o0 := box4_cells HO0.out
 go_enter Tryz.func52, Tryz.ntmps52
 go_wp2_with fail
 refine (KP.out _).mono ?_
 rintro e w1 ⟨rfl, hb1⟩
 obtain ⟨HB1, HP1, HO1, HZ1⟩ := t4o HB0 HP0 HO0 HZ0 hb1
 have p1 := box8_cells HP1.out
 have o1 := box4_cells HO1.out
 have z1 := box8_cells HZ1.out
 clear hb1 HB0 HP0 HO0 HZ0 p0 o0
 go_wp2_with fail
 refine (KO.out _).mono ?_
 rintro e w2 ⟨rfl, hb2⟩
 obtain ⟨HB2, HP2, HO2, HZ2⟩ := t4o HB1 HP1 HO1 HZ1 hb2
 have p2 := box8_cells HP2.out
 have o2 := box4_cells HO2.out
 have z2 := box8_cells HZ2.out
 have hl2 := row_lt HZ2.out
 clear hb2 HB1 HP1 HO1 HZ1 p1 o1 z1
 obtain ⟨HN2, HPa, HOa, HZa, HBa⟩ := t4a HB2 HP2 HO2 HZ2 (PB 0 0 0 0 0 0 0 0)
 go_wp2_with (refine listStoreP rfl rfl _ _ _ rfl rfl w2.heap.size (2) (n) (d) (r) (l) (0) (g) (k) rfl rfl HN2.out ?_)
 intro w3 hr3 ho3 hs3 hB3
 have hl3 : w.heap.size ≤ w2.heap.size := by omega
 have HB3 : Hid (Below w.heap.size w w3) := hB3 _ _ hl3 HBa.out
 have HN3 := hq hr3
 obtain ⟨HP3, HO3, HZ3⟩ := t4p HPa HOa HZa hl2 ho3
 have p3 := box8_cells HP3.out
 have o3 := box4_cells HO3.out
 have n3 := box8_cells HN3.out
 clear hr3 ho3 hs3 hB3 HN2 HPa HOa HZa HBa HP2 HO2 HZ2 HB2 p2 o2 z2
 go_upto_region 15 with fail
 go_wp2_with (refine listStoreC rfl rfl _ _ _ rfl rfl w2.heap.size 5 (V) rfl rfl HN3.out (by simp) ?_)
 intro w30 hr ho hs hB
 have HB30 : Hid (Below w.heap.size w w30) := hB _ _ hl3 HB3.out
 have HN30 := hq hr
 have HP30 := hq ((ho _ (by omega)).trans HP3.out)
 have HO30 := hq ((ho _ (by omega)).trans HO3.out)
 have HZ30 := hq ((ho _ (by omega)).trans HZ3.out)
 have p30 := box8_cells HP30.out
 have o30 := box4_cells HO30.out
 have n30 := box8_cells HN30.out
 clear hr ho hs hB HB3 HN3 HP3 HO3 HZ3 p3 o3 n3
 have HB4 := hq HB30.out
 have HZ4 := hq HZ30.out
 go_upto_region 31 with fail
 go_wp2_with (refine listStoreP rfl rfl _ _ _ rfl rfl (w.heap.size + 1 + 1) (2) (n) (d) (r) (l) (V) (g) (k) rfl rfl HZ4.out ?_)
 intro w9 hr9 ho9 hs9 hB9
 have HF := hq (hB9 _ _ (le2 _) HB4.out)
 have HRf := hq hr9
 clear ho9 hs9 hB9 hr9
 obtain ⟨⟨q0, q1, q2, q3, q4, q5, q6, q7⟩, _⟩ := box8_cells HRf.out
 go_wp2
 refine bodyPost_ret (v := .tuple #[PV 2 n d r l V g k, .bool true]) (by simp only [results, Tryz.results52]; simp [go_sem, q0, q1, q2, q3, q4, q5, q6, q7]) rfl ⟨by rw [HT.out]; rfl, HF.out⟩
theorem takeS_2_2b1 (n d r l b g k N D V : Int) (hp : Pm.ok ⟨2, n, d, r, l, b, g, k⟩) (ho : OrdR 2 N D V) (hb0 : 0 < b) (w : World) : Calls Tryz.prog 52 #[PV 2 n d r l b g k, .agg #[.int .i64 2, .int .i64 N, .int .i64 D, .int .i64 V]] w fun e w' => e = .returned (.tuple #[(Pm.take ⟨2, n, d, r, l, b, g, k⟩ 2 N D V).1.V, .bool (Pm.take ⟨2, n, d, r, l, b, g, k⟩ 2 N D V).2]) ∧ Below w.heap.size w w' := by
 have HT : Hid (Pm.take ⟨2, n, d, r, l, b, g, k⟩ 2 N D V = (⟨2, n, d, r, l, b, g, k⟩, false)) := by show _ = _; unfold Pm.take; rw [or_yes ho, ok_yes hp]; simp [hb0]
 have KP := kpS hp
 have KO := koS ho
 clear hp ho
 obtain ⟨HB0, HP0, HO0, HZ0⟩ := t4s w (PB 2 n d r l b g k) (oB 2 N D V) (PB 0 0 0 0 0 0 0 0)
 have p0 := box8_cells HP0.out
 have o0 := box4_cells HO0.out
 go_enter Tryz.func52, Tryz.ntmps52
 go_wp2_with fail
 refine (KP.out _).mono ?_
 rintro e w1 ⟨rfl, hb1⟩
 obtain ⟨HB1, HP1, HO1, HZ1⟩ := t4o HB0 HP0 HO0 HZ0 hb1
 have p1 := box8_cells HP1.out
 have o1 := box4_cells HO1.out
 have z1 := box8_cells HZ1.out
 clear hb1 HB0 HP0 HO0 HZ0 p0 o0
 go_wp2_with fail
 refine (KO.out _).mono ?_
 rintro e w2 ⟨rfl, hb2⟩
 obtain ⟨HB2, HP2, HO2, HZ2⟩ := t4o HB1 HP1 HO1 HZ1 hb2
 have p2 := box8_cells HP2.out
 have o2 := box4_cells HO2.out
 have z2 := box8_cells HZ2.out
 have hl2 := row_lt HZ2.out
 clear hb2 HB1 HP1 HO1 HZ1 p1 o1 z1
 obtain ⟨HN2, HPa, HOa, HZa, HBa⟩ := t4a HB2 HP2 HO2 HZ2 (PB 0 0 0 0 0 0 0 0)
 go_wp2_with (refine listStoreP rfl rfl _ _ _ rfl rfl w2.heap.size (2) (n) (d) (r) (l) (b) (g) (k) rfl rfl HN2.out ?_)
 intro w3 hr3 ho3 hs3 hB3
 have hl3 : w.heap.size ≤ w2.heap.size := by omega
 have HB3 : Hid (Below w.heap.size w w3) := hB3 _ _ hl3 HBa.out
 have HN3 := hq hr3
 obtain ⟨HP3, HO3, HZ3⟩ := t4p HPa HOa HZa hl2 ho3
 have p3 := box8_cells HP3.out
 have o3 := box4_cells HO3.out
 have n3 := box8_cells HN3.out
 clear hr3 ho3 hs3 hB3 HN2 HPa HOa HZa HBa HP2 HO2 HZ2 HB2 p2 o2 z2
 have HB4 := hq HB3.out
 have HZ4 := hq HZ3.out
 go_upto_region 14 with fail
 go_wp2_with (refine listStoreP rfl rfl _ _ _ rfl rfl (w.heap.size + 1 + 1) (2) (n) (d) (r) (l) (b) (g) (k) rfl rfl HZ4.out ?_)
 intro w9 hr9 ho9 hs9 hB9
 have HF := hq (hB9 _ _ (le2 _) HB4.out)
 have HRf := hq hr9
 clear ho9 hs9 hB9 hr9
 obtain ⟨⟨q0, q1, q2, q3, q4, q5, q6, q7⟩, _⟩ := box8_cells HRf.out
 go_wp2
 refine bodyPost_ret (v := .tuple #[PV 2 n d r l b g k, .bool false]) (by simp only [results, Tryz.results52]; simp [go_sem, q0, q1, q2, q3, q4, q5, q6, q7]) rfl ⟨by rw [HT.out]; rfl, HF.out⟩
theorem takeS_2_3 (n d r l b g k N D V : Int) (hp : Pm.ok ⟨3, n, d, r, l, b, g, k⟩) (ho : OrdR 2 N D V) (w : World) : Calls Tryz.prog 52 #[PV 3 n d r l b g k, .agg #[.int .i64 2, .int .i64 N, .int .i64 D, .int .i64 V]] w fun e w' => e = .returned (.tuple #[(Pm.take ⟨3, n, d, r, l, b, g, k⟩ 2 N D V).1.V, .bool (Pm.take ⟨3, n, d, r, l, b, g, k⟩ 2 N D V).2]) ∧ Below w.heap.size w w' := by
 have HT : Hid (Pm.take ⟨3, n, d, r, l, b, g, k⟩ 2 N D V = (⟨3, n, d, r, l, b, g, k⟩, false)) := by show _ = _; unfold Pm.take; rw [or_yes ho, ok_yes hp]; simp
 have KP := kpS hp
 have KO := koS ho
 clear hp ho
 obtain ⟨HB0, HP0, HO0, HZ0⟩ := t4s w (PB 3 n d r l b g k) (oB 2 N D V) (PB 0 0 0 0 0 0 0 0)
 have p0 := box8_cells HP0.out
 have o0 := box4_cells HO0.out
 go_enter Tryz.func52, Tryz.ntmps52
 go_wp2_with fail
 refine (KP.out _).mono ?_
 rintro e w1 ⟨rfl, hb1⟩
 obtain ⟨HB1, HP1, HO1, HZ1⟩ := t4o HB0 HP0 HO0 HZ0 hb1
 have p1 := box8_cells HP1.out
 have o1 := box4_cells HO1.out
 have z1 := box8_cells HZ1.out
 clear hb1 HB0 HP0 HO0 HZ0 p0 o0
 go_wp2_with fail
 refine (KO.out _).mono ?_
 rintro e w2 ⟨rfl, hb2⟩
 obtain ⟨HB2, HP2, HO2, HZ2⟩ := t4o HB1 HP1 HO1 HZ1 hb2
 have p2 := box8_cells HP2.out
 have o2 := box4_cells HO2.out
 have z2 := box8_cells HZ2.out
 have hl2 := row_lt HZ2.out
 clear hb2 HB1 HP1 HO1 HZ1 p1 o1 z1
 obtain ⟨HN2, HPa, HOa, HZa, HBa⟩ := t4a HB2 HP2 HO2 HZ2 (PB 0 0 0 0 0 0 0 0)
 go_wp2_with (refine listStoreP rfl rfl _ _ _ rfl rfl w2.heap.size (3) (n) (d) (r) (l) (b) (g) (k) rfl rfl HN2.out ?_)
 intro w3 hr3 ho3 hs3 hB3
 have hl3 : w.heap.size ≤ w2.heap.size := by omega
 have HB3 : Hid (Below w.heap.size w w3) := hB3 _ _ hl3 HBa.out
 have HN3 := hq hr3
 obtain ⟨HP3, HO3, HZ3⟩ := t4p HPa HOa HZa hl2 ho3
 have p3 := box8_cells HP3.out
 have o3 := box4_cells HO3.out
 have n3 := box8_cells HN3.out
 clear hr3 ho3 hs3 hB3 HN2 HPa HOa HZa HBa HP2 HO2 HZ2 HB2 p2 o2 z2
 have HB4 := hq HB3.out
 have HZ4 := hq HZ3.out
 go_upto_region 14 with fail
 go_wp2_with (refine listStoreP rfl rfl _ _ _ rfl rfl (w.heap.size + 1 + 1) (3) (n) (d) (r) (l) (b) (g) (k) rfl rfl HZ4.out ?_)
 intro w9 hr9 ho9 hs9 hB9
 have HF := hq (hB9 _ _ (le2 _) HB4.out)
 have HRf := hq hr9
 clear ho9 hs9 hB9 hr9
 obtain ⟨⟨q0, q1, q2, q3, q4, q5, q6, q7⟩, _⟩ := box8_cells HRf.out
 go_wp2
 refine bodyPost_ret (v := .tuple #[PV 3 n d r l b g k, .bool false]) (by simp only [results, Tryz.results52]; simp [go_sem, q0, q1, q2, q3, q4, q5, q6, q7]) rfl ⟨by rw [HT.out]; rfl, HF.out⟩
end Go.Proofs.YtfhhnelffldggaaGreatDoor
namespace Go.Proofs.YtfhhnelffldggaaGreatDoor
open Go.ChangeShapes Go.WideShapes Go.ChangeAt Go.RowKit Go.PlainAid
set_option linter.unusedVariables false
def IsRow (k : IntKind) (w : World) (a : Option Addr) (len cap : Nat) (zs : List Int) : Prop :=
 (a = none ∧ len = 0 ∧ cap = 0 ∧ zs = []) ∨
 ∃ x, a = some x ∧ len ≤ cap ∧ cap ≤ maxLen ∧ zs.length = cap ∧ (∀ i, i < zs.length → w.cell? (x.add i) = some (.int k (zs.getD i 0))) ∧ ∀ n ∈ zs, (Lit.int k n).wf = true
theorem byte_wf {n : Int} (h : (Lit.int .u8 n).wf = true) : 0 ≤ n ∧ n ≤ 255 := by
 simpa [Lit.wf, IntKind.min, IntKind.max, IntKind.signed, IntKind.bits] using h
theorem code_of_row {w : World} {a : Option Addr} {len cap : Nat} {zs : List Int} (h : IsRow .u8 w a len cap zs) (hl : len ≤ 1048576) : CodeOk w w.heap.size a len := by
 refine ⟨hl, fun hp => ?_⟩
 rcases h with ⟨rfl, rfl, rfl, rfl⟩ | ⟨x, rfl, h1, h2, h3, h4, h5⟩
 · omega
 ·
  obtain ⟨b, off, rfl, hc⟩ := ints_at h4 (by omega)
  refine ⟨b, off, rfl, ?_, fun j hj => ?_⟩
  ·
   have := hc 0 (by omega)
   exact World.block_lt_of_cell? w _ this
  ·
   have hj' : j < zs.length := by omega
   have hm : zs.getD j 0 ∈ zs := by simp [List.getD_eq_getElem?_getD, List.getElem?_eq_getElem hj']
   have hw := byte_wf (h5 _ hm)
   exact ⟨zs.getD j 0, hw.1, hw.2, hc j hj'⟩
theorem open_code {H : Type} {enc : TypeId × Value → H} {W : World} {base : Nat} {held : Bool} {v : Value} {d : DataW H} {ps : List MemPlace} {bs : Nat}
  (hv : Value.okWide Tryz.prog W .any base 22 v) (h : DataW.Trod enc Tryz.prog W bs (fun _ => true) held 22 v d ps) :
  ∃ a len cap zs, v = .slice a len cap ∧ IsRow .u8 W a len cap zs := by
 obtain ⟨a, len, cap, rfl⟩ := okWide_slice Tryz.underlying22 hv
 obtain ⟨fuel, hf⟩ := h
 rcases open_ints Tryz.underlying22 Tryz.underlying5 (by kernel_rfl) hf with ⟨hcs, _⟩ | ⟨x, l, c, zs, hcs, _, hl, hm, hz, _, hcell, hwz⟩
 ·
  simp [Value.cells] at hcs
  obtain ⟨rfl, rfl, rfl⟩ := hcs
  exact ⟨none, 0, 0, [], rfl, .inl ⟨rfl, rfl, rfl, rfl⟩⟩
 ·
  simp [Value.cells] at hcs
  obtain ⟨rfl, rfl, rfl⟩ := hcs
  exact ⟨_, _, _, zs, rfl, .inr ⟨_, rfl, hl, hm, by simpa using hz, hcell, hwz⟩⟩
end Go.Proofs.YtfhhnelffldggaaGreatDoor
