/-
  Drawn keys; a drawn menu.
-/
import Derived.Test.YtjaimcmnndejgaaPlaces
import Derived.Test.YtjaimcmnndejgaaMnL
namespace Go.Proofs.Ytjaimcmnndejgaa
open Go.RowKit Go.PlainAid
set_option linter.unusedVariables false
set_option linter.unusedSimpArgs false

theorem pickS (C B : Nat) (a : Option Addr) (len cap : Nat) (L : List ByteArray) (n g cp : Nat) (hn : L.length = n) (hl : 0 < n) (hl2 : n ≤ 1000) (w : World) (hC : Cur w C a len cap) (hB : B ≤ C) (hcode : CodeOk w B a len)
    (hg : g ≠ C) (hgl : g < w.heap.size) (hcell : ∀ j x, L[j]? = some x → w.cell? ⟨g, j, none⟩ = some (.string x)) :
    Calls Try.prog 47 #[.pointer (some ⟨C, 0, none⟩), .slice (some ⟨g, 0, none⟩) n cp] w fun e w' => ∃ x : ByteArray, e = .returned (.string x) ∧ x ∈ L ∧ Drawn w w' C B a len cap := by
  have HD0 : Hid (Drawn w w C B a len cap) := ⟨hC, hcode, World.grownBy.refl _ _⟩
  have HC : Hid (∀ j x, L[j]? = some x → w.cell? ⟨g, j, none⟩ = some (.string x)) := hcell
  have HN : Hid (L.length = n) := hn
  clear hC hcode hcell hn
  go_enter Try.func47, Try.ntmps47
  go_wp2_with fail
  refine (below28 C B a len cap (n : Int) (by omega) (by omega) _ HD0.out.1 hB HD0.out.2.1).mono ?_
  rintro e w1 ⟨x, rfl, x0, x1, hD⟩
  obtain ⟨k, rfl⟩ := Int.eq_ofNat_of_zero_le x0
  have hk : k < L.length := by have := HN.out; omega
  have hx : L[k]? = some L[k] := List.getElem?_eq_getElem hk
  have hc : w1.cell? ⟨g, k, none⟩ = some (.string L[k]) := (hD.2.2.cell_far ⟨g, k, none⟩ hgl (fun e => by cases e; exact hg rfl)).trans (HC.out k _ hx)
  have HM : Hid (L[k] ∈ L) := List.getElem_mem hk
  have HD : Hid (Drawn w w1 C B a len cap) := hD
  clear hD HD0 hx
  generalize L[k] = t at *
  go_wp2
  go_ret
  exact ⟨_, rfl, HM.out, HD.out⟩
theorem laid_strs (w : World) (l : List ByteArray) (j : Nat) (x : ByteArray) (hj : l[j]? = some x) : (w.alloc (.cells (l.map Value.string).toArray 9)).cell? ⟨w.heap.size, j, none⟩ = some (.string x) := by
  rw [cell_of_row _ w.heap.size j _ 9 (0, 0) (heap_new w _)]
  simp [hj]
theorem drawn_belM {w W W' : World} {C B : Nat} {a : Option Addr} {len cap : Nat} (h : Drawn w W C B a len cap) (hB : B ≤ W.heap.size) (hb : Below W.heap.size W W') : Drawn w W' C B a len cap := by
  obtain ⟨⟨j, x, hj, hc⟩, hcode, hg⟩ := h
  refine ⟨⟨j, x, hj, ?_⟩, code_below hcode (hb.mono hB), ?_⟩
  · unfold CurAt at hc ⊢
    rw [hb.block C (row_lt hc)]
    exact hc
  · exact ⟨hb.os.trans hg.os, hb.tape.trans hg.tape, hb.output.trans hg.output, Nat.le_trans hg.size hb.size, fun m hm hne => (hb.block m (Nat.lt_of_lt_of_le hm hg.size)).trans (hg.block m hm hne)⟩
theorem drawn_putM {w W W' : World} {C B k : Nat} {a : Option Addr} {len cap : Nat} {o : Obj} (h : Drawn w W C B a len cap) (hp : PutM W W' k o) (hk : w.heap.size ≤ k) (hC : C < w.heap.size) (hB : B ≤ C) : Drawn w W' C B a len cap := by
  obtain ⟨⟨j, x, hj, hc⟩, hcode, hg⟩ := h
  have hb := hp.2.2.2 0 W (Nat.zero_le _) (Below.refl _ _)
  have hb2 := hp.2.2.2 B W (by omega) (Below.refl _ _)
  refine ⟨⟨j, x, hj, ?_⟩, code_below hcode hb2, ?_⟩
  · unfold CurAt at hc ⊢
    rw [hp.2.1 C (by omega)]
    exact hc
  · exact ⟨hb.os.trans hg.os, hb.tape.trans hg.tape, hb.output.trans hg.output, by rw [hp.2.2.1]; exact hg.size, fun m hm hne => (hp.2.1 m (by omega)).trans (hg.block m hm hne)⟩
theorem row_drawn {W W' : World} {k C : Nat} {o : Obj} (h : W.heap[k]? = some o) (hg : W.grownBy W' (some C)) (hk : k ≠ C) : W'.heap[k]? = some o :=
  (hg.block k (row_lt h) (fun e => by cases e; exact hk rfl)).trans h
def keyL : List ByteArray := [⟨#[98, 50, 10, 53, 10, 50, 48, 10]⟩, ⟨#[111, 57, 10]⟩, ⟨#[112]⟩, ⟨#[103]⟩, ⟨#[115]⟩, ⟨#[120]⟩, ⟨#[98, 51, 10, 49, 10]⟩, ⟨#[52, 48, 10]⟩, ⟨#[99]⟩, ⟨#[113]⟩, ⟨#[98, 48, 10]⟩]
theorem keyL_size : ∀ x ∈ keyL, x.size ≤ 8 := by
  intro x hx
  simp only [keyL, List.mem_cons, List.not_mem_nil, or_false] at hx
  rcases hx with rfl | rfl | rfl | rfl | rfl | rfl | rfl | rfl | rfl | rfl | rfl <;> decide
def tailL : List ByteArray := [⟨#[]⟩, ⟨#[98, 49]⟩, ⟨#[98, 49, 50, 10, 51]⟩, ⟨#[111, 55]⟩]
theorem tailL_size : ∀ x ∈ tailL, x.size ≤ 8 := by
  intro x hx
  simp only [tailL, List.mem_cons, List.not_mem_nil, or_false] at hx
  rcases hx with rfl | rfl | rfl | rfl <;> decide
def digL : List ByteArray := [⟨#[49, 50, 51, 52, 53]⟩, ⟨#[97]⟩, ⟨#[49]⟩]
theorem digL_size : ∀ x ∈ digL, x.size ≤ 8 := by
  intro x hx
  simp only [digL, List.mem_cons, List.not_mem_nil, or_false] at hx
  rcases hx with rfl | rfl | rfl <;> decide
def numI : List Int := [-1, 9999, 10000]
theorem ints_cells (w : World) (l : List Int) : ∀ j (hj : j < l.length), (w.alloc (.cells ((l.map (Value.int .i64)).toArray) 3)).cell? ⟨w.heap.size, j, none⟩ = some (.int .i64 l[j]) := by
  intro j hj
  rw [cell_of_row _ w.heap.size j _ 3 (0, 0) (heap_new w _)]
  simp [hj]
theorem txt_of (S : ByteArray) : ∃ s : List UInt8, S = ⟨s.toArray⟩ ∧ s.length = S.size := ⟨S.data.toList, by cases S; simp, by cases S; simp [ByteArray.size]⟩
set_option maxRecDepth 100000 in
set_option maxHeartbeats 2000000 in
theorem keysD (C B : Nat) (a : Option Addr) (len cap : Nat) (w : World) (hC : Cur w C a len cap) (hB : B ≤ C) (hcode : CodeOk w B a len) :
    Calls Try.prog 32 #[.pointer (some ⟨C, 0, none⟩)] w fun e w' => ∃ S : ByteArray, e = .returned (.string S) ∧ S.size ≤ 16 ∧ Drawn w w' C B a len cap := by
  have hCl := cur_lt hC
  have HD0 : Hid (Drawn w w C B a len cap) := ⟨hC, hcode, World.grownBy.refl _ _⟩
  clear hC hcode
  go_enter Try.func32, Try.ntmps32
  go_wp2
  go_loopg [3, 4] 3 (fun gk s i wr => ∃ (j : Nat) (S : ByteArray), j + gk = 3 ∧ j ≤ 2 ∧ s = .string S ∧ i = .int .i64 j ∧ S.size ≤ 8 * j ∧ Hid (Drawn w wr C B a len cap))
  case atStart => exact ⟨0, ⟨#[]⟩, by omega, by omega, rfl, rfl, by decide, HD0⟩
  case round =>
    clear HD0
    obtain ⟨j, S, hj, hj2, rfl, rfl, hs, HD⟩ := hrel
    go_wp2_with fail
    refine (below28 C B a len cap 3 (by omega) (by omega) _ HD.out.1 hB HD.out.2.1).mono ?_
    rintro e w1 ⟨x, rfl, x0, x1, hD⟩
    have HD1 : Hid (Drawn w w1 C B a len cap) := drawn_trans HD.out hD
    clear hD HD
    by_cases hx : (j : Int) < x
    · have hCl1 : C < w1.heap.size := Nat.lt_of_lt_of_le hCl HD1.out.2.2.size
      have HD2 : Hid (Drawn w (w1.alloc (.cells (keyL.map Value.string).toArray 9)) C B a len cap) := drawn_alloc HD1.out (by omega) _
      go_wp2_with fail
      refine (pickS C B a len cap keyL 11 w1.heap.size 11 rfl (by decide) (by decide) _ HD2.out.1 hB HD2.out.2.1 (by omega) (by simp) (laid_strs _ keyL)).mono ?_
      rintro e w3 ⟨x3, rfl, hx3, hD⟩
      have HD3 : Hid (Drawn w w3 C B a len cap) := drawn_trans HD2.out hD
      have hs3 := keyL_size x3 hx3
      have HS : Hid ((S ++ x3).size ≤ 8 * (j + 1)) := by show _ ≤ _; rw [ByteArray.size_append]; omega
      have hs16 : S.size ≤ 16 := by omega
      have qi : IntKind.i64.wrap ((j : Int) + 1) = (j : Int) + 1 := wrap_in (by omega) (by omega)
      clear hD HD1 HD2 hx3
      go_wp2
      go_roundg (gk - 1)
      case measure => omega
      case rel => exact ⟨j + 1, S ++ x3, by omega, by omega, rfl, by go_num, HS.out, HD3⟩
    · have hs16 : S.size ≤ 16 := by omega
      go_wp2
      go_ret
      exact ⟨S, rfl, hs16, HD1.out⟩
theorem drawKeys (a : Option Addr) (len cap : Nat) (w : World) (hcode : CodeOk w w.heap.size a len) :
    Calls Try.prog 11 #[.slice a len cap] w fun e w' => ∃ S : ByteArray, e = .returned (.string S) ∧ S.size ≤ 16 ∧ Below w.heap.size w w' := by
  have HC : Hid (CodeOk w w.heap.size a len) := hcode
  clear hcode
  go_enter Try.func11, Try.ntmps11
  go_wp2_with fail
  refine (new23 w.heap.size a len cap _ HC.out (Nat.le_refl _)).mono ?_
  rintro e w1 ⟨C, rfl, hC, hcu, hco, hb1⟩
  have HB1 : Hid (Below w.heap.size w w1) := hb1
  have HCu : Hid (Cur w1 C a len cap) := hcu
  have HCo : Hid (CodeOk w1 w.heap.size a len) := hco
  clear hb1 hcu hco HC
  go_wp2_with fail
  refine (keysD C w.heap.size a len cap _ HCu.out hC HCo.out).mono ?_
  rintro e w2 ⟨S, rfl, hs, hD⟩
  have HB2 : Hid (Below w.heap.size w w2) := drawn_below HB1.out hC hD
  clear hD HB1 HCu HCo
  go_wp2
  go_ret
  exact ⟨S, rfl, hs, HB2.out⟩
/-- what stands while a menu is drawn -/
structure LM (w W : World) (C B : Nat) (a : Option Addr) (len cap X : Nat) (M : Mn) : Prop where
  d : Drawn w W C B a len cap
  z : W.heap[w.heap.size]? = some (.cells #[.int .i64 0, .bool false, .int .i64 0, .int .i64 0, .string ⟨#[]⟩] 26)
  p : W.heap[X]? = some (.cells #[.int .i64 M.a, .bool M.b, .int .i64 M.n, .int .i64 M.d, .string ⟨M.s.toArray⟩] 26)
theorem LM.on {w W W' : World} {C B : Nat} {a : Option Addr} {len cap X : Nat} {M : Mn} (h : LM w W C B a len cap X M) (hd : Drawn W W' C B a len cap) (hX : X ≠ C) (hC : C < w.heap.size) : LM w W' C B a len cap X M :=
  ⟨drawn_trans h.d hd, row_drawn h.z hd.2.2 (by omega), row_drawn h.p hd.2.2 hX⟩
theorem LM.al {w W : World} {C B : Nat} {a : Option Addr} {len cap X : Nat} {M : Mn} (h : LM w W C B a len cap X M) (hB : B ≤ W.heap.size) (o : Obj) : LM w (W.alloc o) C B a len cap X M :=
  ⟨drawn_alloc h.d hB _, row_on h.z (alM _ _), row_on h.p (alM _ _)⟩
theorem LM.put {w W W' : World} {C B : Nat} {a : Option Addr} {len cap X : Nat} {M M' : Mn} (h : LM w W C B a len cap X M) (hp : PutM W W' X (.cells #[.int .i64 M'.a, .bool M'.b, .int .i64 M'.n, .int .i64 M'.d, .string ⟨M'.s.toArray⟩] 26)) (hX : w.heap.size < X) (hC : C < w.heap.size) (hB : B ≤ C) : LM w W' C B a len cap X M' :=
  ⟨drawn_putM h.d hp (by omega) hC hB, hp.far h.z (by omega), hp.1⟩
set_option maxRecDepth 100000 in
set_option maxHeartbeats 4000000 in
theorem menuD (C B : Nat) (a : Option Addr) (len cap : Nat) (w : World) (hC : Cur w C a len cap) (hB : B ≤ C) (hcode : CodeOk w B a len) :
    Calls Try.prog 43 #[.pointer (some ⟨C, 0, none⟩)] w fun e w' => ∃ M : Mn, e = .returned (mnV M) ∧ Drawn w w' C B a len cap := by
  have hCl := cur_lt hC
  have HD0 : Hid (Drawn w (w.alloc (.cells #[.int .i64 0, .bool false, .int .i64 0, .int .i64 0, .string ⟨#[]⟩] 26)) C B a len cap) := drawn_alloc ⟨hC, hcode, World.grownBy.refl _ _⟩ (by omega) _
  have HZ0 : Hid ((w.alloc (.cells #[.int .i64 0, .bool false, .int .i64 0, .int .i64 0, .string ⟨#[]⟩] 26)).heap[w.heap.size]? = some (.cells #[.int .i64 0, .bool false, .int .i64 0, .int .i64 0, .string ⟨#[]⟩] 26)) := heap_new w _
  clear hC hcode
  go_enter Try.func43, Try.ntmps43
  go_wp2_with fail
  refine (menunewS _).mono ?_
  rintro e w1 ⟨rfl, hb1⟩
  have HD1 : Hid (Drawn w w1 C B a len cap) := drawn_belM HD0.out (by simp; omega) hb1
  have HZ1 : Hid (w1.heap[w.heap.size]? = some (.cells #[.int .i64 0, .bool false, .int .i64 0, .int .i64 0, .string ⟨#[]⟩] 26)) := row_on HZ0.out hb1
  clear hb1 HD0 HZ0
  go_wp2_with fail
  refine (keysD C B a len cap _ HD1.out.1 hB HD1.out.2.1).mono ?_
  rintro e w2 ⟨S, rfl, hs, hD⟩
  have HD2 : Hid (Drawn w w2 C B a len cap) := drawn_trans HD1.out hD
  have HZ2 : Hid (w2.heap[w.heap.size]? = some (.cells #[.int .i64 0, .bool false, .int .i64 0, .int .i64 0, .string ⟨#[]⟩] 26)) := row_drawn HZ1.out hD.2.2 (by omega)
  clear hD HD1 HZ1
  have hCl2 : C < w2.heap.size := Nat.lt_of_lt_of_le hCl HD2.out.2.2.size
  have HD3 : Hid (Drawn w (w2.alloc (.cells (tailL.map Value.string).toArray 9)) C B a len cap) := drawn_alloc HD2.out (by omega) _
  have HZ3 : Hid ((w2.alloc (.cells (tailL.map Value.string).toArray 9)).heap[w.heap.size]? = some (.cells #[.int .i64 0, .bool false, .int .i64 0, .int .i64 0, .string ⟨#[]⟩] 26)) := row_on HZ2.out (alM _ _)
  go_wp2_with fail
  refine (pickS C B a len cap tailL 4 w2.heap.size 4 rfl (by decide) (by decide) _ HD3.out.1 hB HD3.out.2.1 (by omega) (by simp) (laid_strs _ tailL)).mono ?_
  rintro e w4 ⟨x4, rfl, hx4, hD⟩
  have HD4 : Hid (Drawn w w4 C B a len cap) := drawn_trans HD3.out hD
  have HZ4 : Hid (w4.heap[w.heap.size]? = some (.cells #[.int .i64 0, .bool false, .int .i64 0, .int .i64 0, .string ⟨#[]⟩] 26)) := row_drawn HZ3.out hD.2.2 (by omega)
  have hs4 := tailL_size x4 hx4
  clear hD HD2 HZ2 HD3 HZ3 hx4
  obtain ⟨ks, hks, hkl⟩ := txt_of (S ++ x4)
  have hkl2 : ks.length ≤ 1048576 := by rw [hkl, ByteArray.size_append]; omega
  have HKS : Hid (S ++ x4 = ⟨ks.toArray⟩) := hks
  clear hks hkl
  obtain ⟨⟨M, l⟩, hr⟩ : ∃ R, allM newM ks = R := ⟨_, rfl⟩
  obtain ⟨q, hq⟩ : ∃ q, l.length = q := ⟨_, rfl⟩
  have HR : Hid (allM newM ks = (M, l)) := hr
  have HQ : Hid (l.length = q) := hq
  clear hr hq
  go_wp2_with fail
  rw [HKS.out]
  refine (pressAllS newM ks (M, l) q HR.out HQ.out hkl2 _).mono ?_
  rintro e w5 ⟨g5, c5, rfl, _, hb5⟩
  have hw4 : B ≤ w4.heap.size := by have := HD4.out.2.2.size; omega
  have HD5 : Hid (Drawn w w5 C B a len cap) := drawn_belM HD4.out hw4 hb5
  have HZ5 : Hid (w5.heap[w.heap.size]? = some (.cells #[.int .i64 0, .bool false, .int .i64 0, .int .i64 0, .string ⟨#[]⟩] 26)) := row_on HZ4.out hb5
  have hX : w.heap.size < w5.heap.size := row_lt HZ5.out
  have HL : Hid (LM w (w5.alloc (.cells #[.int .i64 M.a, .bool M.b, .int .i64 M.n, .int .i64 M.d, .string ⟨M.s.toArray⟩] 26)) C B a len cap w5.heap.size M) := ⟨drawn_alloc HD5.out (by omega) _, row_on HZ5.out (alM _ _), heap_new w5 _⟩
  clear hb5 HD4 HZ4 HD5 HZ5 HR HQ HKS hs hs4 hkl2 hw4
  unfold mnV
  dsimp only
  go_upto_region 2 with fail
  generalize w5.alloc (.cells #[.int .i64 M.a, .bool M.b, .int .i64 M.n, .int .i64 M.d, .string ⟨M.s.toArray⟩] 26) = w6 at *
  generalize w5.heap.size = X at *
  go_wp2_with fail
  refine (below28 C B a len cap 16 (by omega) (by omega) _ HL.out.d.1 hB HL.out.d.2.1).mono ?_
  rintro e w7 ⟨x, rfl, x0, x1, hD⟩
  have HL7 : Hid (LM w w7 C B a len cap X M) := HL.out.on hD (by omega) hCl
  clear hD HL
  have hXC : X ≠ C := by omega
  have hB7 : B ≤ w7.heap.size := by have := HL7.out.d.2.2.size; omega
  by_cases e0 : x = 0
  · subst e0
    go_wp2_with fail
    refine (below28 C B a len cap 6 (by omega) (by omega) _ HL7.out.d.1 hB HL7.out.d.2.1).mono ?_
    rintro e w8 ⟨y, rfl, _, _, hD⟩
    have HL8 : Hid (LM w w8 C B a len cap X M) := HL7.out.on hD hXC hCl
    clear hD HL7
    go_wp2_with (refine listStoreI rfl rfl _ _ _ rfl rfl X 0 y rfl rfl HL8.out.p (by simp) ?_)
    intro w3 hput
    obtain ⟨M3, hM3⟩ : ∃ M3 : Mn, M3 = ⟨y, M.b, M.n, M.d, M.s⟩ := ⟨_, rfl⟩
    have HL3 : Hid (LM w w3 C B a len cap X M3) := HL8.out.put (M' := M3) (by rw [hM3]; exact hput) hX hCl hB
    clear hput HL8 hM3
    go_upto_region 9 with fail
    have p9 := box5_cells HL3.out.p
    go_wp2_with (refine listStoreM rfl rfl _ _ _ rfl rfl w.heap.size (M3.a) (M3.b) (M3.n) (M3.d) (⟨M3.s.toArray⟩) rfl rfl HL3.out.z ?_)
    intro w9 hput
    have HD9 : Hid (Drawn w w9 C B a len cap) := drawn_putM HL3.out.d hput (Nat.le_refl _) hCl hB
    have zz := box5_cells hput.1
    clear hput HL3 p9
    go_wp2
    refine bodyPost_ret (v := .agg #[.int .i64 M3.a, .bool M3.b, .int .i64 M3.n, .int .i64 M3.d, .string ⟨M3.s.toArray⟩]) (by simp only [results, Try.results43]; simp [go_sem, zz]) rfl ⟨M3, rfl, HD9.out⟩
  have q0 : (x == 0) = false := by simpa using e0
  by_cases e1 : x = 1
  · subst e1
    have hX7 : C < w7.heap.size := by have := HL7.out.d.2.2.size; omega
    have HL8 : Hid (LM w (w7.alloc (.cells (digL.map Value.string).toArray 9)) C B a len cap X M) := HL7.out.al hB7 _
    go_wp2_with fail
    refine (pickS C B a len cap digL 3 w7.heap.size 3 rfl (by decide) (by decide) _ HL8.out.d.1 hB HL8.out.d.2.1 (by omega) (by simp) (laid_strs _ digL)).mono ?_
    rintro e w8 ⟨y, rfl, _, hD⟩
    have HL9 : Hid (LM w w8 C B a len cap X M) := HL8.out.on hD hXC hCl
    clear hD HL7 HL8
    obtain ⟨ys, rfl, hys⟩ := txt_of y
    go_wp2_with (refine listStoreT rfl rfl _ _ _ rfl rfl X 4 (⟨ys.toArray⟩ : ByteArray) rfl rfl HL9.out.p (by simp) ?_)
    intro w3 hput
    obtain ⟨M3, hM3⟩ : ∃ M3 : Mn, M3 = ⟨M.a, M.b, M.n, M.d, ys⟩ := ⟨_, rfl⟩
    have HL3 : Hid (LM w w3 C B a len cap X M3) := HL9.out.put (M' := M3) (by rw [hM3]; exact hput) hX hCl hB
    clear hput HL9 hM3
    go_upto_region 9 with fail
    have p9 := box5_cells HL3.out.p
    go_wp2_with (refine listStoreM rfl rfl _ _ _ rfl rfl w.heap.size (M3.a) (M3.b) (M3.n) (M3.d) (⟨M3.s.toArray⟩) rfl rfl HL3.out.z ?_)
    intro w9 hput
    have HD9 : Hid (Drawn w w9 C B a len cap) := drawn_putM HL3.out.d hput (Nat.le_refl _) hCl hB
    have zz := box5_cells hput.1
    clear hput HL3 p9
    go_wp2
    refine bodyPost_ret (v := .agg #[.int .i64 M3.a, .bool M3.b, .int .i64 M3.n, .int .i64 M3.d, .string ⟨M3.s.toArray⟩]) (by simp only [results, Try.results43]; simp [go_sem, zz]) rfl ⟨M3, rfl, HD9.out⟩
  have q1 : (x == 1) = false := by simpa using e1
  by_cases e2 : x = 2
  · subst e2
    have hX7 : C < w7.heap.size := by have := HL7.out.d.2.2.size; omega
    have HL8 : Hid (LM w (w7.alloc (.cells ((numI.map (Value.int .i64)).toArray) 3)) C B a len cap X M) := HL7.out.al hB7 _
    have HCL : Hid (∀ j (hj : j < numI.length), (w7.alloc (.cells ((numI.map (Value.int .i64)).toArray) 3)).cell? ⟨w7.heap.size, j, none⟩ = some (.int .i64 numI[j])) := ints_cells w7 numI
    go_wp2_with fail
    refine (pick26' C B a len cap numI 3 w7.heap.size 3 rfl (by decide) (by decide) _ HL8.out.d.1 hB HL8.out.d.2.1 (by omega) (by simp) HCL.out).mono ?_
    rintro e w8 ⟨y, rfl, _, hD⟩
    have HL9 : Hid (LM w w8 C B a len cap X M) := HL8.out.on hD hXC hCl
    clear hD HL7 HL8 HCL
    go_wp2_with (refine listStoreI rfl rfl _ _ _ rfl rfl X 2 y rfl rfl HL9.out.p (by simp) ?_)
    intro w3 hput
    obtain ⟨M3, hM3⟩ : ∃ M3 : Mn, M3 = ⟨M.a, M.b, y, M.d, M.s⟩ := ⟨_, rfl⟩
    have HL3 : Hid (LM w w3 C B a len cap X M3) := HL9.out.put (M' := M3) (by rw [hM3]; exact hput) hX hCl hB
    clear hput HL9 hM3
    go_upto_region 9 with fail
    have p9 := box5_cells HL3.out.p
    go_wp2_with (refine listStoreM rfl rfl _ _ _ rfl rfl w.heap.size (M3.a) (M3.b) (M3.n) (M3.d) (⟨M3.s.toArray⟩) rfl rfl HL3.out.z ?_)
    intro w9 hput
    have HD9 : Hid (Drawn w w9 C B a len cap) := drawn_putM HL3.out.d hput (Nat.le_refl _) hCl hB
    have zz := box5_cells hput.1
    clear hput HL3 p9
    go_wp2
    refine bodyPost_ret (v := .agg #[.int .i64 M3.a, .bool M3.b, .int .i64 M3.n, .int .i64 M3.d, .string ⟨M3.s.toArray⟩]) (by simp only [results, Try.results43]; simp [go_sem, zz]) rfl ⟨M3, rfl, HD9.out⟩
  have q2 : (x == 2) = false := by simpa using e2
  go_upto_region 9 with fail
  have p9 := box5_cells HL7.out.p
  go_wp2_with (refine listStoreM rfl rfl _ _ _ rfl rfl w.heap.size (M.a) (M.b) (M.n) (M.d) (⟨M.s.toArray⟩) rfl rfl HL7.out.z ?_)
  intro w9 hput
  have HD9 : Hid (Drawn w w9 C B a len cap) := drawn_putM HL7.out.d hput (Nat.le_refl _) hCl hB
  have zz := box5_cells hput.1
  clear hput HL7 p9
  go_wp2
  refine bodyPost_ret (v := .agg #[.int .i64 M.a, .bool M.b, .int .i64 M.n, .int .i64 M.d, .string ⟨M.s.toArray⟩]) (by simp only [results, Try.results43]; simp [go_sem, zz]) rfl ⟨M, rfl, HD9.out⟩
def keyI : List Int := [98, 111, 112, 103, 115, 120, 99, 113, 10, 10, 48, 57, 53, -1, 300]
theorem keyI_cells (w : World) : ∀ j (hj : j < keyI.length), (w.alloc (.cells ((keyI.map (Value.int .i64)).toArray) 3)).cell? ⟨w.heap.size, j, none⟩ = some (.int .i64 keyI[j]) := by
  intro j hj
  rw [cell_of_row _ w.heap.size j _ 3 (0, 0) (heap_new w _)]
  simp [hj]
set_option maxRecDepth 100000 in
set_option maxHeartbeats 2000000 in
theorem drawPress (a : Option Addr) (len cap : Nat) (w : World) (hcode : CodeOk w w.heap.size a len) :
    Calls Try.prog 21 #[.slice a len cap] w fun e w' => ∃ (M : Mn) (key : Int), e = .returned (.tuple #[mnV M, .int .i64 key]) ∧ Below w.heap.size w w' := by
  have HZ0 : Hid ((w.alloc (.cells #[.int .i64 0, .bool false, .int .i64 0, .int .i64 0, .string ⟨#[]⟩] 26)).heap[w.heap.size]? = some (.cells #[.int .i64 0, .bool false, .int .i64 0, .int .i64 0, .string ⟨#[]⟩] 26)) := heap_new w _
  have HB0 : Hid (Below w.heap.size w (w.alloc (.cells #[.int .i64 0, .bool false, .int .i64 0, .int .i64 0, .string ⟨#[]⟩] 26))) := alM _ _
  have HC : Hid (CodeOk (w.alloc (.cells #[.int .i64 0, .bool false, .int .i64 0, .int .i64 0, .string ⟨#[]⟩] 26)) w.heap.size a len) := code_below hcode HB0.out
  clear hcode
  go_enter Try.func21, Try.ntmps21
  go_wp2_with fail
  refine (new23 w.heap.size a len cap _ HC.out (by simp)).mono ?_
  rintro e w1 ⟨C, rfl, hC, hcu, hco, hb1⟩
  have hs0 : (w.alloc (.cells #[.int .i64 0, .bool false, .int .i64 0, .int .i64 0, .string ⟨#[]⟩] 26)).heap.size = w.heap.size + 1 := by simp
  have hCw : w.heap.size < C := by omega
  have HB1 : Hid (Below w.heap.size w w1) := bel_on (Nat.le_refl _) HB0.out hb1
  have HZ1 : Hid (w1.heap[w.heap.size]? = some (.cells #[.int .i64 0, .bool false, .int .i64 0, .int .i64 0, .string ⟨#[]⟩] 26)) := row_on HZ0.out hb1
  have HCu : Hid (Cur w1 C a len cap) := hcu
  have HCo : Hid (CodeOk w1 w.heap.size a len) := hco
  clear hb1 hcu hco HC HZ0 HB0 hC hs0
  have hC : w.heap.size ≤ C := by omega
  go_wp2_with fail
  refine (menuD C w.heap.size a len cap _ HCu.out hC HCo.out).mono ?_
  rintro e w2 ⟨M, rfl, hD⟩
  have HB2 : Hid (Below w.heap.size w w2) := drawn_below HB1.out hC hD
  have HZ2 : Hid (w2.heap[w.heap.size]? = some (.cells #[.int .i64 0, .bool false, .int .i64 0, .int .i64 0, .string ⟨#[]⟩] 26)) := row_drawn HZ1.out hD.2.2 (by omega)
  have HCu2 : Hid (Cur w2 C a len cap) := hD.1
  have HCo2 : Hid (CodeOk w2 w.heap.size a len) := hD.2.1
  clear hD HB1 HZ1 HCu HCo
  have hCl2 := cur_lt HCu2.out
  have HD3 : Hid (Drawn w2 (w2.alloc (.cells ((keyI.map (Value.int .i64)).toArray) 3)) C w.heap.size a len cap) := drawn_alloc ⟨HCu2.out, HCo2.out, World.grownBy.refl _ _⟩ (by omega) _
  have HB3 : Hid (Below w.heap.size w (w2.alloc (.cells ((keyI.map (Value.int .i64)).toArray) 3))) := bel_on (Nat.le_refl _) HB2.out (alM _ _)
  have HZ3 : Hid ((w2.alloc (.cells ((keyI.map (Value.int .i64)).toArray) 3)).heap[w.heap.size]? = some (.cells #[.int .i64 0, .bool false, .int .i64 0, .int .i64 0, .string ⟨#[]⟩] 26)) := row_on HZ2.out (alM _ _)
  have HCL : Hid (∀ j (hj : j < keyI.length), (w2.alloc (.cells ((keyI.map (Value.int .i64)).toArray) 3)).cell? ⟨w2.heap.size, j, none⟩ = some (.int .i64 keyI[j])) := keyI_cells w2
  clear HB2 HZ2
  go_wp2_with fail
  refine (pick26' C w.heap.size a len cap keyI 15 w2.heap.size 15 rfl (by decide) (by decide) _ HD3.out.1 hC HD3.out.2.1 (by omega) (by simp) HCL.out).mono ?_
  rintro e w4 ⟨y, rfl, _, hD⟩
  have HB4 : Hid (Below w.heap.size w w4) := drawn_below HB3.out hC hD
  have HZ4 : Hid (w4.heap[w.heap.size]? = some (.cells #[.int .i64 0, .bool false, .int .i64 0, .int .i64 0, .string ⟨#[]⟩] 26)) := row_drawn HZ3.out hD.2.2 (by omega)
  clear hD HD3 HB3 HZ3 HCL HCu2 HCo2
  unfold mnV
  go_wp2_with (refine listStoreM rfl rfl _ _ _ rfl rfl w.heap.size M.a M.b M.n M.d ⟨M.s.toArray⟩ rfl rfl HZ4.out ?_)
  intro w9 hput
  have HB9 : Hid (Below w.heap.size w w9) := hput.2.2.2 _ _ (Nat.le_refl _) HB4.out
  have zz := box5_cells hput.1
  clear hput HB4 HZ4
  go_wp2
  refine bodyPost_ret (v := .tuple #[.agg #[.int .i64 M.a, .bool M.b, .int .i64 M.n, .int .i64 M.d, .string ⟨M.s.toArray⟩], .int .i64 y]) (by simp only [results, Try.results21]; simp [go_sem, zz]) rfl ⟨M, y, rfl, HB9.out⟩
end Go.Proofs.Ytjaimcmnndejgaa
