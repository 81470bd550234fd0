/-
  Drawn inputs of a life.
-/
import Derived.Test.YtfhhnelffldggaaGreatDoorUqAK
import Derived.Test.YtfhhnelffldggaaGreatDoorUqAR
import Derived.Test.YtfhhnelffldggaaGreatDoorUqAX
import Derived.Test.YtfhhnelffldggaaGreatDoorUqBO
import Derived.Great.BuildSlice
import Derived.Deep.DeepCutAuto
set_option maxRecDepth 100000
set_option maxHeartbeats 16000000
namespace Go.Proofs.YtfhhnelffldggaaGreatDoor
open Go.RowKit Go.PlainAid
set_option linter.unusedVariables false
set_option linter.unusedSimpArgs false
theorem aqLivD {p : Prop} (h : p) : Hid p := h
structure LI (w W : World) (C B : Nat) (a : Option Addr) (len cap X : Nat) (b : Int) (K L : ByteArray) : Prop where
 d : Drawn w W C B a len cap
 z : W.heap[w.heap.size]? = some (.cells #[.int .i64 0, .string ⟨#[]⟩, .string ⟨#[]⟩] 46)
 p : W.heap[X]? = some (.cells #[.int .i64 b, .string K, .string L] 46)
theorem LI.on {w W W' : World} {C B : Nat} {a : Option Addr} {len cap X : Nat} {b : Int} {K L : ByteArray} (h : LI w W C B a len cap X b K L) (hd : Drawn W W' C B a len cap) (hX : X ≠ C) (hC : C < w.heap.size) : LI w W' C B a len cap X b K L :=
 ⟨drawn_trans h.d hd, row_drawn h.z hd.2.2 (by omega), row_drawn h.p hd.2.2 hX⟩
theorem LI.bel {w W W' : World} {C B : Nat} {a : Option Addr} {len cap X : Nat} {b : Int} {K L : ByteArray} (h : LI w W C B a len cap X b K L) (hB : B ≤ W.heap.size) (hb : Below W.heap.size W W') : LI w W' C B a len cap X b K L :=
 ⟨drawn_belM h.d hB hb, row_on h.z hb, row_on h.p hb⟩
theorem LI.put {w W W' : World} {C B : Nat} {a : Option Addr} {len cap X : Nat} {b b' : Int} {K K' L L' : ByteArray} (h : LI w W C B a len cap X b K L) (hp : PutM W W' X (.cells #[.int .i64 b', .string K', .string L'] 46)) (hX : w.heap.size < X) (hC : C < w.heap.size) (hB : B ≤ C) : LI w W' C B a len cap X b' K' L' :=
 ⟨drawn_putM h.d hp (by omega) hC hB, hp.far h.z (by omega), hp.1⟩
theorem cells_tri {w : World} {k : Nat} {t : TypeId} {x y z : Value} (h : w.heap[k]? = some (.cells #[x, y, z] t)) : w.cell? ⟨k, 0, none⟩ = some x ∧ w.cell? ⟨k, 1, none⟩ = some y ∧ w.cell? ⟨k, 2, none⟩ = some z := by
 refine ⟨?_, ?_, ?_⟩ <;> simp [World.cell?, h]
theorem listStoreE {ops : Array Oper} {rest : List Oper} {o : Oper} {a : Act} {Q : Exit → Act → World → Prop} {w : World} (hgd : o.guard = none) (hd : o.dst = none) (x y : Operand) (ty : TypeId) (ho : o.op = .store ty x y) (hty : ty = 46)
  (g : Nat) (vs : Array Value) (hx : a.eval x = .pointer (some ⟨g, 0, none⟩)) (hy : a.eval y = .agg vs) (hv : vs.size = 3) (h1 : vs.all (·.oneCell') = true)
  {cs : Array Value} (hg : w.heap[g]? = some (.cells cs 46)) (hs : cs.size = 3)
  (h : ∀ w' : World, PutM w w' g (.cells vs 46) → wpList Tryz.prog ops Q rest a w') : wpList Tryz.prog ops Q (o :: rest) a w := by
 subst hty
 refine wpList_store_rowTo hgd _ x y ho hd g _ hx hy _ _ hg (by rw [hv]; kernel_rfl) (by rw [hs, hv]) h1 ?_
 exact h _ (putM_row hg)
def bitL : List Int := [1, 2, 4, 8, 5, 15]
theorem bitL_ok : ∀ x ∈ bitL, 0 ≤ x ∧ x ≤ 15 := by
 intro x hx
 simp only [bitL, List.mem_cons, List.not_mem_nil, or_false] at hx
 omega
theorem l18InD (C B : Nat) (a : Option Addr) (len cap : Nat) (w : World) (hC : Cur w C a len cap) (hB : B ≤ C) (hcode : CodeOk w B a len) :
  Calls Tryz.prog 75 #[.pointer (some ⟨C, 0, none⟩)] w fun e w' => ∃ (b : Int) (K L : ByteArray), e = .returned (.agg #[.int .i64 b, .string K, .string L]) ∧ ((0 ≤ b ∧ b ≤ 15) ∧ K.size ≤ 20 ∧ L.size ≤ 40) ∧ Drawn w w' C B a len cap := by
 have hCl := cur_lt hC
 have HL0 : Hid (LI w ((w.alloc (.cells #[.int .i64 0, .string ⟨#[]⟩, .string ⟨#[]⟩] 46)).alloc (.cells #[.int .i64 0, .string ⟨#[]⟩, .string ⟨#[]⟩] 46)) C B a len cap (w.heap.size + 1) 0 ⟨#[]⟩ ⟨#[]⟩) := by
  show LI _ _ _ _ _ _ _ _ _ _ _
  refine ⟨drawn_alloc (drawn_alloc ⟨hC, hcode, World.grownBy.refl _ _⟩ (by omega) _) (by simp; omega) _, (Below.heap_alloc _ _ _ (row_lt (heap_new w _))).trans (heap_new w _), ?_⟩
  have := heap_new (w.alloc (.cells #[.int .i64 0, .string ⟨#[]⟩, .string ⟨#[]⟩] 46)) (.cells #[.int .i64 0, .string ⟨#[]⟩, .string ⟨#[]⟩] 46)
  rwa [World.size_alloc] at this
 have hXw : w.heap.size < w.heap.size + 1 := by omega
 have hXC : w.heap.size + 1 ≠ C := by omega
 clear hC hcode
 go_enter Tryz.func75, Tryz.ntmps75
 go_upto_region 2 with fail
 generalize hW0 : (w.alloc (.cells #[.int .i64 0, .string ⟨#[]⟩, .string ⟨#[]⟩] 46)).alloc (.cells #[.int .i64 0, .string ⟨#[]⟩, .string ⟨#[]⟩] 46) = W0 at *
 generalize hX : w.heap.size + 1 = X at *
 clear hW0 hX
 go_wp2_with fail
 refine (I.onceR C B a len cap 8 (by omega) (by omega) _ HL0.out.d.1 hB HL0.out.d.2.1).mono ?_
 rintro e w1 ⟨b1, rfl, hD⟩
 have HL1 : Hid (LI w w1 C B a len cap X 0 ⟨#[]⟩ ⟨#[]⟩) := HL0.out.on hD hXC hCl
 clear hD HL0
 go_upto_if 6 with fail
 go_cut [] (fun wd => ∃ b : Int, (0 ≤ b ∧ b ≤ 15) ∧ Hid (LI w wd C B a len cap X b ⟨#[]⟩ ⟨#[]⟩))
 case first =>
  cases b1
  ·
   go_wp2
   go_meet
   exact ⟨0, by omega, HL1⟩
  ·
   have hB1 : B ≤ w1.heap.size := by have := HL1.out.d.2.2.size; omega
   have hC1 : C < w1.heap.size := by have := HL1.out.d.2.2.size; omega
   have HL2 : Hid (LI w (w1.alloc (.cells ((bitL.map (Value.int .i64)).toArray) 3)) C B a len cap X 0 ⟨#[]⟩ ⟨#[]⟩) := HL1.out.bel hB1 (alM _ _)
   have HCL : Hid (∀ j (hj : j < bitL.length), (w1.alloc (.cells ((bitL.map (Value.int .i64)).toArray) 3)).cell? ⟨w1.heap.size, j, none⟩ = some (.int .i64 bitL[j])) := ints_cells w1 bitL
   go_wp2_with fail
   refine (pick26' C B a len cap bitL 6 w1.heap.size 6 rfl (by decide) (by decide) _ HL2.out.d.1 hB HL2.out.d.2.1 (by omega) (by simp) HCL.out).mono ?_
   rintro e w2 ⟨y, rfl, hy, hD⟩
   have HL3 : Hid (LI w w2 C B a len cap X 0 ⟨#[]⟩ ⟨#[]⟩) := HL2.out.on hD hXC hCl
   have hyb := bitL_ok y hy
   clear hD HL1 HL2 HCL hy
   go_wp2_with (refine listStoreI rfl rfl _ _ _ rfl rfl X 0 y rfl rfl HL3.out.p (by simp) ?_)
   intro w3 hput
   have HL4 : Hid (LI w w3 C B a len cap X y ⟨#[]⟩ ⟨#[]⟩) := HL3.out.put hput hXw hCl hB
   clear hput HL3
   (try go_wp2)
   go_meet
   exact ⟨y, hyb, HL4⟩
 case rest =>
  obtain ⟨b, hb, HL⟩ := hcut
  clear HL1
  obtain ⟨w4, hw4⟩ : ∃ w4, wc = w4 := ⟨_, rfl⟩
  rw [hw4] at HL ⊢
  clear hw4
  go_wp2_with fail
  refine (I.onceR C B a len cap 3 (by omega) (by omega) _ HL.out.d.1 hB HL.out.d.2.1).mono ?_
  rintro e w5 ⟨b1, rfl, hD⟩
  have HL5 : Hid (LI w w5 C B a len cap X b ⟨#[]⟩ ⟨#[]⟩) := HL.out.on hD hXC hCl
  clear hD HL
  go_upto_if 12 with fail
  go_cut [] (fun wd => ∃ K : ByteArray, K.size ≤ 20 ∧ Hid (LI w wd C B a len cap X b K ⟨#[]⟩))
  case first =>
   cases b1
   ·
    go_wp2
    go_meet
    exact ⟨⟨#[]⟩, by decide, HL5⟩
   ·
    go_wp2_with fail
    refine (keysD C B a len cap _ HL5.out.d.1 hB HL5.out.d.2.1).mono ?_
    rintro e w6 ⟨S, rfl, hs, hD⟩
    have HL6 : Hid (LI w w6 C B a len cap X b ⟨#[]⟩ ⟨#[]⟩) := HL5.out.on hD hXC hCl
    clear hD HL5
    go_wp2_with (refine listStoreT rfl rfl _ _ _ rfl rfl X 1 S rfl rfl HL6.out.p (by simp) ?_)
    intro w7 hput
    have HL7 : Hid (LI w w7 C B a len cap X b S ⟨#[]⟩) := HL6.out.put hput hXw hCl hB
    have hs20 : ¬ (20 : Int) < (S.size : Int) := by omega
    have hs21 : S.size ≤ 20 := by omega
    have c7 := cells_tri HL7.out.p
    clear hput HL6 hs
    go_wp2
    go_meet
    exact ⟨S, hs21, HL7⟩
  case rest =>
   obtain ⟨K, hK, HL⟩ := hcut
   clear HL5
   obtain ⟨w8, hw8⟩ : ∃ w8, wc = w8 := ⟨_, rfl⟩
   rw [hw8] at HL ⊢
   clear hw8
   go_wp2_with fail
   refine (I.onceR C B a len cap 6 (by omega) (by omega) _ HL.out.d.1 hB HL.out.d.2.1).mono ?_
   rintro e w9 ⟨b1, rfl, hD⟩
   have HL9 : Hid (LI w w9 C B a len cap X b K ⟨#[]⟩) := HL.out.on hD hXC hCl
   clear hD HL
   go_upto_if 25 with fail
   go_cut [] (fun wd => ∃ L : ByteArray, L.size ≤ 40 ∧ Hid (LI w wd C B a len cap X b K L))
   case first =>
    cases b1
    ·
     go_wp2
     go_meet
     exact ⟨⟨#[]⟩, by decide, HL9⟩
    ·
     go_wp2_with fail
     refine (I.orderD C B a len cap _ HL9.out.d.1 hB HL9.out.d.2.1).mono ?_
     rintro e w10 ⟨k, n, d, v, rfl, hD⟩
     have HL10 : Hid (LI w w10 C B a len cap X b K ⟨#[]⟩) := HL9.out.on hD hXC hCl
     have hB10 : B ≤ w10.heap.size := by have := HL10.out.d.2.2.size; omega
     clear hD HL9
     (try go_wp2_with fail)
     refine (I.text_any k n d v _).mono ?_
     rintro e w11 ⟨t, bb, rfl, ht, hb11⟩
     have HL11 : Hid (LI w w11 C B a len cap X b K ⟨#[]⟩) := HL10.out.bel hB10 hb11
     clear hb11 HL10 hB10
     go_wp2_with (refine listStoreT rfl rfl _ _ _ rfl rfl X 2 t rfl rfl HL11.out.p (by simp) ?_)
     intro w12 hput
     have HL12 : Hid (LI w w12 C B a len cap X b K t) := HL11.out.put hput hXw hCl hB
     clear hput HL11
     go_wp2_with fail
     refine (I.onceR C B a len cap 6 (by omega) (by omega) _ HL12.out.d.1 hB HL12.out.d.2.1).mono ?_
     rintro e w13 ⟨b2, rfl, hD⟩
     have HL13 : Hid (LI w w13 C B a len cap X b K t) := HL12.out.on hD hXC hCl
     have c13 := cells_tri HL13.out.p
     clear hD HL12
     cases b2
     ·
      have hs40 : ¬ (40 : Int) < (t.size : Int) := by omega
      have hs41 : t.size ≤ 40 := by omega
      clear ht
      go_wp2
      go_meet
      exact ⟨t, hs41, HL13⟩
     ·
      go_wp2_with fail
      refine (spoiltD C B a len cap t (by omega) _ HL13.out.d.1 hB HL13.out.d.2.1).mono ?_
      rintro e w14 ⟨t2, rfl, ht2, hD⟩
      have HL14 : Hid (LI w w14 C B a len cap X b K t) := HL13.out.on hD hXC hCl
      clear hD HL13 c13
      go_wp2_with (refine listStoreT rfl rfl _ _ _ rfl rfl X 2 t2 rfl rfl HL14.out.p (by simp) ?_)
      intro w15 hput
      have HL15 : Hid (LI w w15 C B a len cap X b K t2) := HL14.out.put hput hXw hCl hB
      have c15 := cells_tri HL15.out.p
      have hs40 : ¬ (40 : Int) < (t2.size : Int) := by omega
      have hs41 : t2.size ≤ 40 := by omega
      clear hput HL14 ht ht2
      go_wp2
      go_meet
      exact ⟨t2, hs41, HL15⟩
   case rest =>
    obtain ⟨L, hL, HL⟩ := hcut
    clear HL9
    obtain ⟨w16, hw16⟩ : ∃ w16, wc = w16 := ⟨_, rfl⟩
    rw [hw16] at HL ⊢
    clear hw16
    go_wp2_with (first | refine wpList_load_row rfl _ _ rfl X rfl _ _ _ _ HL.out.p Tryz.underlying46 rfl (by kernel_rfl) ?_ | refine listStoreE rfl rfl _ _ _ rfl rfl w.heap.size #[.int .i64 b, .string K, .string L] rfl rfl rfl (by kernel_rfl) HL.out.z rfl ?_)
    intro w17 hput
    have HDz : Hid (Drawn w w17 C B a len cap) := drawn_putM HL.out.d hput (Nat.le_refl _) hCl hB
    have HZz := aqLivD hput.1
    clear hput HL
    go_wp2
    refine bodyPost_ret (v := .agg #[.int .i64 b, .string K, .string L]) (results_cell_row Tryz.results75 _ _ w.heap.size _ _ _ _ rfl HZz.out Tryz.underlying46 rfl (by kernel_rfl)) rfl ⟨b, K, L, rfl, ⟨hb, hK, hL⟩, HDz.out⟩
def In3Ok (x : In3) : Prop := (0 ≤ x.1 ∧ x.1 ≤ 15) ∧ x.2.1.size ≤ 20 ∧ x.2.2.size ≤ 40
theorem OwnI3.drawn {w w' : World} {B g n c : Nat} {l : List In3} {C B0 : Nat} {a : Option Addr} {len cap : Nat} (h : OwnI3 w B g n c l) (hd : Drawn w w' C B0 a len cap) (hne : g ≠ C) : OwnI3 w' B g n c l := h.same (hd.2.2.block g h.lt (fun e => by cases e; exact hne rfl))
theorem drawn_list {w W W' : World} {C B : Nat} {a : Option Addr} {len cap g q c : Nat} (h : Drawn w W C B a len cap) (hg : W.grownBy W' (some g)) (hgw : w.heap.size ≤ g) (hC : C < w.heap.size) (hB : B ≤ C) : Drawn w W' C B a len cap :=
 I.drawn_grown (v := .slice (some ⟨g, 0, none⟩) q c) h hg (fun g' e => by cases e; exact hgw) hC (by omega)
def keyF : ByteArray := ⟨#[98, 50, 10, 49, 10, 54, 48, 10]⟩
theorem l18InsD (C B : Nat) (a : Option Addr) (len cap : Nat) (w : World) (hC : Cur w C a len cap) (hB : B ≤ C) (hcode : CodeOk w B a len) :
  Calls Tryz.prog 27 #[.pointer (some ⟨C, 0, none⟩), .slice a len cap] w fun e w' => ∃ (g n c : Nat) (l : List In3), e = .returned (.slice (some ⟨g, 0, none⟩) n c) ∧ OwnI3 w' w.heap.size g n c l ∧ (∀ x ∈ l, In3Ok x) ∧ (1 ≤ n ∧ n ≤ 120) ∧ Drawn w w' C B a len cap := by
 have hCl := cur_lt hC
 have hlen : len ≤ 1048576 := hcode.1
 have HD0 : Hid (Drawn w (w.alloc (.cells #[] 46)) C B a len cap) := drawn_alloc ⟨hC, hcode, World.grownBy.refl _ _⟩ (by omega) _
 have HO0 : Hid (OwnI3 (w.alloc (.cells #[] 46)) w.heap.size w.heap.size 0 0 []) := ownI3_empty w _ (Nat.le_refl _)
 obtain ⟨M, hM⟩ : ∃ M : Nat, M = len / 3 := ⟨_, rfl⟩
 have hq : (len : Int).tdiv 3 = (M : Int) := by rw [hM]; rfl
 have hMb : M ≤ 1048576 := by omega
 have q2 : IntKind.i64.wrap (10 + (M : Int)) = 10 + (M : Int) := wrap_in (by omega) (by omega)
 clear hC hcode hM
 go_enter Tryz.func27, Tryz.ntmps27
 go_upto_region 3 with fail
 generalize w.alloc (.cells #[] 46) = w1 at *
 go_upto_if 14 with fail
 go_cut [6] (fun v6 wd => ∃ N : Nat, v6 = .int .i64 N ∧ 10 ≤ N ∧ N ≤ 120 ∧ wd = w1)
 case first =>
  by_cases h120 : (120 : Int) < 10 + (M : Int)
  ·
   go_wp2
   go_meet
   exact ⟨120, rfl, by omega, by omega, rfl⟩
  ·
   go_wp2
   go_meet
   exact ⟨10 + M, by simp, by omega, by omega, rfl⟩
 case rest =>
  obtain ⟨N, rfl, hN0, hN1, rfl⟩ := hcut
  clear hq q2 hMb
  obtain ⟨w2, hw2⟩ : ∃ w2, wc = w2 := ⟨_, rfl⟩
  rw [hw2] at HD0 HO0 ⊢
  clear hw2
  have HI0 : Hid (∀ x ∈ ([] : List In3), In3Ok x) := fun x hx => (by cases hx)
  go_wp2_with fail
  go_loopg [5, 7] N (fun gk s i wr => ∃ (j g c : Nat) (l : List In3), j + gk = N ∧ s = .slice (some ⟨g, 0, none⟩) j c ∧ i = .int .i64 j ∧ Hid (OwnI3 wr w.heap.size g j c l) ∧ Hid (∀ x ∈ l, In3Ok x) ∧ Hid (Drawn w wr C B a len cap))
  case atStart => exact ⟨0, w.heap.size, 0, [], by omega, rfl, rfl, HO0, HI0, HD0⟩
  case round =>
   clear HO0 HD0
   obtain ⟨j, g, c, l, hj, rfl, rfl, HO, HI, HD⟩ := hrel
   have hgw : w.heap.size ≤ g := HO.out.ge
   by_cases hlt : j < N
   ·
    have qj : IntKind.i64.wrap ((j : Int) + 1) = (j : Int) + 1 := wrap_in (by omega) (by omega)
    have j1 : (j : Int) < (N : Int) := by omega
    go_wp2_with fail
    refine (l18InD C B a len cap _ HD.out.1 hB HD.out.2.1).mono ?_
    rintro e w3 ⟨b, K, L, rfl, hok, hD⟩
    have hB3 : w.heap.size ≤ w3.heap.size := Nat.le_trans HD.out.2.2.size hD.2.2.size
    have HO3 : Hid (OwnI3 (w3.alloc (.cells #[.int .i64 b, .string K, .string L] 46)) w.heap.size g j c l) := (HO.out.drawn hD (by omega)).on (alM _ _)
    have HD3 : Hid (Drawn w (w3.alloc (.cells #[.int .i64 b, .string K, .string L] 46)) C B a len cap) := drawn_alloc (drawn_trans HD.out hD) (by omega) _
    have HR3 : Hid (RdZ (w3.alloc (.cells #[.int .i64 b, .string K, .string L] 46)) (some ⟨w3.heap.size, 0, none⟩) [(b, K, L)]) := (one_rowZ w3 b K L).rd
    have HI3 : Hid (∀ x ∈ l ++ [((b, K, L) : In3)], In3Ok x) := (fun x hx => by
     rcases List.mem_append.1 hx with h | h
     · exact HI.out x h
     · simp at h; subst h; exact hok : ∀ x ∈ l ++ [((b, K, L) : In3)], In3Ok x)
    clear hD hok HO HD HI
    go_wp2_with (refine listZ rfl (.tmp 20) (.tmp 23) rfl w.heap.size g j c l (some ⟨w3.heap.size, 0, none⟩) 1 1 [(b, K, L)] rfl rfl HO3.out rfl (fun e => by cases e) HR3.out (by omega) (by simp; omega) ?_)
    intro g4 c4 w4 hown hgr
    have HO4 := aqLivD hown
    have HD4 : Hid (Drawn w w4 C B a len cap) := drawn_list (q := j) (c := c) HD3.out hgr hgw hCl hB
    clear hown hgr HO3 HD3 HR3 hB3
    obtain ⟨l2, hl2⟩ : ∃ l2, l ++ [((b, K, L) : In3)] = l2 := ⟨_, rfl⟩
    rw [hl2] at HO4 HI3
    clear hl2
    go_wp2
    go_roundg (gk - 1)
    case measure => omega
    case rel => exact ⟨j + 1, g4, c4, l2, by omega, rfl, by go_num, HO4, HI3, HD4⟩
   ·
    obtain rfl : j = N := by omega
    have hne : ¬ ((j : Int) < j) := by omega
    have hj0 : (0 : Int) < (j : Int) := by omega
    obtain ⟨x, r, rfl⟩ : ∃ x r, l = x :: r := by
     cases l with
     | nil => have := HO.out.len; simp at this; omega
     | cons x r => exact ⟨x, r, rfl⟩
    have hown : wr.ownsRow w.heap.size 46 3 (.slice (some ⟨g, 0, none⟩) j c) j (inV (x :: r)) := HO.out
    have c1 : wr.cell? ⟨g, 1, none⟩ = some (.string x.2.1) := by rw [hown.cellAt 1 (by omega)]; rfl
    have d1 := hown.frozenAt 1
    obtain ⟨ho, hgr⟩ := hown.stored 1 (.string keyF)
    have HO5 : Hid (OwnI3 (wr.setCell ⟨g, 1, none⟩ (.string keyF)) w.heap.size g j c ((x.1, keyF, x.2.2) :: r)) := ho
    have HD5 : Hid (Drawn w (wr.setCell ⟨g, 1, none⟩ (.string keyF)) C B a len cap) := drawn_list (q := j) (c := c) HD.out hgr hgw hCl hB
    have HI5 : Hid (∀ y ∈ ((x.1, keyF, x.2.2) : In3) :: r, In3Ok y) := (fun y hy => by
     have hx := HI.out x (List.mem_cons_self ..)
     rcases List.mem_cons.1 hy with h | h
     · subst h; exact ⟨hx.1, (by show keyF.size ≤ 20; decide), hx.2.2⟩
     · exact HI.out y (List.mem_cons_of_mem _ h) : ∀ y ∈ ((x.1, keyF, x.2.2) : In3) :: r, In3Ok y)
    clear hown ho hgr HO HD HI
    unfold keyF at HO5 HD5 HI5
    go_wp2
    go_ret
    exact ⟨g, j, c, rfl, _, HO5.out, fun p q r h => HI5.out (p, q, r) h, ⟨by omega, by omega⟩, HD5.out⟩
theorem drawIns (a : Option Addr) (len cap : Nat) (w : World) (hcode : CodeOk w w.heap.size a len) :
  Calls Tryz.prog 7 #[.slice a len cap] w fun e w' => ∃ (g n c : Nat) (l : List In3), e = .returned (.slice (some ⟨g, 0, none⟩) n c) ∧ OwnI3 w' w.heap.size g n c l ∧ (∀ x ∈ l, In3Ok x) ∧ (1 ≤ n ∧ n ≤ 120) ∧ Below w.heap.size w w' := by
 have HC := aqLivD hcode
 clear hcode
 go_enter Tryz.func7, Tryz.ntmps7
 go_wp2_with fail
 refine (new23 w.heap.size a len cap _ HC.out (Nat.le_refl _)).mono ?_
 rintro e w1 ⟨C, rfl, hC, hcu, hco, hb1⟩
 have HB1 := aqLivD hb1
 have HCu := aqLivD hcu
 have HCo := aqLivD hco
 clear hb1 hcu hco HC
 go_wp2_with fail
 refine (l18InsD C w.heap.size a len cap _ HCu.out hC HCo.out).mono ?_
 rintro e w2 ⟨g, n, c, l, rfl, ho, hi, hn, hD⟩
 have HB2 : Hid (Below w.heap.size w w2) := drawn_below HB1.out hC hD
 have HO2 : Hid (OwnI3 w2 w.heap.size g n c l) := ho.mono HB1.out.size
 have HI := aqLivD hi
 clear hD HB1 HCu HCo ho hi
 go_wp2
 go_ret
 exact ⟨g, n, c, l, rfl, HO2.out, HI.out, hn, HB2.out⟩
theorem inp_of (x : In3) (h : In3Ok x) : ∃ y : Inp, y.t3 = x ∧ y.ok := by
 obtain ⟨b, K, L⟩ := x
 obtain ⟨lo, lr, hL⟩ := LkD.ex L
 refine ⟨⟨⟨b, K.data.toList, lo, lr⟩, K, L⟩, rfl, ?_, hL, h.1, h.2.1, h.2.2⟩
 cases K
 simp
theorem inps_of : ∀ (l : List In3), (∀ x ∈ l, In3Ok x) → ∃ ys : List Inp, ys.map Inp.t3 = l ∧ ∀ y ∈ ys, y.ok
 | [], _ => ⟨[], rfl, fun y hy => by cases hy⟩
 | x :: l, h => by
  obtain ⟨y, hy, hok⟩ := inp_of x (h x (List.mem_cons_self ..))
  obtain ⟨ys, hys, hoks⟩ := inps_of l (fun z hz => h z (List.mem_cons_of_mem _ hz))
  refine ⟨y :: ys, by simp [hy, hys], fun z hz => ?_⟩
  rcases List.mem_cons.1 hz with rfl | hz
  · exact hok
  · exact hoks z hz
end Go.Proofs.YtfhhnelffldggaaGreatDoor
