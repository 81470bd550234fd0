/-
  Drawn keys; a drawn menu.
-/
import Derived.Test.YtdifmjcghaoilaaGreatDoorGaCL
import Derived.Test.YtdifmjcghaoilaaGreatDoorGaCC
namespace Go.Proofs.YtdifmjcghaoilaaGreatDoor
open Go.RowKit Go.PlainAid
set_option linter.unusedVariables false
set_option linter.unusedSimpArgs false

theorem pickS (C B : Nat) (a : Option Addr) (len cap : Nat) (L : List ByteArray) (n g cp : Nat) (hn : L.length = n) (hl : 0 < n) (hl2 : n ≤ 1000) (w : World) (hC : Cur w C a len cap) (hB : B ≤ C) (hcode : CodeOk w B a len)
    (hg : g ≠ C) (hgl : g < w.heap.size) (hcell : ∀ j x, L[j]? = some x → w.cell? ⟨g, j, none⟩ = some (.string x)) :
    Calls Tryz.prog 112 #[.pointer (some ⟨C, 0, none⟩), .slice (some ⟨g, 0, none⟩) n cp] w fun e w' => ∃ x : ByteArray, e = .returned (.string x) ∧ x ∈ L ∧ Drawn w w' C B a len cap := by
  have HD0 : Hid (Drawn w w C B a len cap) := ⟨hC, hcode, World.grownBy.refl _ _⟩
  have HC : Hid (∀ j x, L[j]? = some x → w.cell? ⟨g, j, none⟩ = some (.string x)) := hcell
  have HN : Hid (L.length = n) := hn
  clear hC hcode hcell hn
  go_enter Tryz.func112, Tryz.ntmps112
  go_wp2_with fail
  refine (below28 C B a len cap (n : Int) (by omega) (by omega) _ HD0.out.1 hB HD0.out.2.1).mono ?_
  rintro e w1 ⟨x, rfl, x0, x1, hD⟩
  obtain ⟨k, rfl⟩ := Int.eq_ofNat_of_zero_le x0
  have hk : k < L.length := by have := HN.out; omega
  have hx : L[k]? = some L[k] := List.getElem?_eq_getElem hk
  have hc : w1.cell? ⟨g, k, none⟩ = some (.string L[k]) := (hD.2.2.cell_far ⟨g, k, none⟩ hgl (fun e => by cases e; exact hg rfl)).trans (HC.out k _ hx)
  have HM : Hid (L[k] ∈ L) := List.getElem_mem hk
  have HD : Hid (Drawn w w1 C B a len cap) := hD
  clear hD HD0 hx
  generalize L[k] = t at *
  go_wp2
  go_ret
  exact ⟨_, rfl, HM.out, HD.out⟩
theorem laid_strs (w : World) (l : List ByteArray) (j : Nat) (x : ByteArray) (hj : l[j]? = some x) : (w.alloc (.cells (l.map Value.string).toArray 9)).cell? ⟨w.heap.size, j, none⟩ = some (.string x) := by
  rw [cell_of_row _ w.heap.size j _ 9 (0, 0) (heap_new w _)]
  simp [hj]
theorem drawn_belM {w W W' : World} {C B : Nat} {a : Option Addr} {len cap : Nat} (h : Drawn w W C B a len cap) (hB : B ≤ W.heap.size) (hb : Below W.heap.size W W') : Drawn w W' C B a len cap := by
  obtain ⟨⟨j, x, hj, hc⟩, hcode, hg⟩ := h
  refine ⟨⟨j, x, hj, ?_⟩, code_below hcode (hb.mono hB), ?_⟩
  · unfold CurAt at hc ⊢
    rw [hb.block C (row_lt hc)]
    exact hc
  · exact ⟨hb.os.trans hg.os, hb.tape.trans hg.tape, hb.output.trans hg.output, Nat.le_trans hg.size hb.size, fun m hm hne => (hb.block m (Nat.lt_of_lt_of_le hm hg.size)).trans (hg.block m hm hne)⟩
theorem drawn_putM {w W W' : World} {C B k : Nat} {a : Option Addr} {len cap : Nat} {o : Obj} (h : Drawn w W C B a len cap) (hp : PutM W W' k o) (hk : w.heap.size ≤ k) (hC : C < w.heap.size) (hB : B ≤ C) : Drawn w W' C B a len cap := by
  obtain ⟨⟨j, x, hj, hc⟩, hcode, hg⟩ := h
  have hb := hp.2.2.2 0 W (Nat.zero_le _) (Below.refl _ _)
  have hb2 := hp.2.2.2 B W (by omega) (Below.refl _ _)
  refine ⟨⟨j, x, hj, ?_⟩, code_below hcode hb2, ?_⟩
  · unfold CurAt at hc ⊢
    rw [hp.2.1 C (by omega)]
    exact hc
  · exact ⟨hb.os.trans hg.os, hb.tape.trans hg.tape, hb.output.trans hg.output, by rw [hp.2.2.1]; exact hg.size, fun m hm hne => (hp.2.1 m (by omega)).trans (hg.block m hm hne)⟩
theorem row_drawn {W W' : World} {k C : Nat} {o : Obj} (h : W.heap[k]? = some o) (hg : W.grownBy W' (some C)) (hk : k ≠ C) : W'.heap[k]? = some o :=
  (hg.block k (row_lt h) (fun e => by cases e; exact hk rfl)).trans h
def keyL : List ByteArray := [⟨#[98, 50, 10, 53, 10, 50, 48, 10]⟩, ⟨#[111, 57, 10]⟩, ⟨#[112]⟩, ⟨#[103]⟩, ⟨#[115]⟩, ⟨#[120]⟩, ⟨#[98, 51, 10, 49, 10]⟩, ⟨#[52, 48, 10]⟩, ⟨#[99]⟩, ⟨#[113]⟩, ⟨#[98, 48, 10]⟩]
theorem keyL_size : ∀ x ∈ keyL, x.size ≤ 8 := by
  intro x hx
  simp only [keyL, List.mem_cons, List.not_mem_nil, or_false] at hx
  rcases hx with rfl | rfl | rfl | rfl | rfl | rfl | rfl | rfl | rfl | rfl | rfl <;> decide
def tailL : List ByteArray := [⟨#[]⟩, ⟨#[98, 49]⟩, ⟨#[98, 49, 50, 10, 51]⟩, ⟨#[111, 55]⟩]
theorem tailL_size : ∀ x ∈ tailL, x.size ≤ 8 := by
  intro x hx
  simp only [tailL, List.mem_cons, List.not_mem_nil, or_false] at hx
  rcases hx with rfl | rfl | rfl | rfl <;> decide
def digL : List ByteArray := [⟨#[49, 50, 51, 52, 53]⟩, ⟨#[97]⟩, ⟨#[49]⟩]
theorem digL_size : ∀ x ∈ digL, x.size ≤ 8 := by
  intro x hx
  simp only [digL, List.mem_cons, List.not_mem_nil, or_false] at hx
  rcases hx with rfl | rfl | rfl <;> decide
def numI : List Int := [-1, 9999, 10000]
theorem ints_cells (w : World) (l : List Int) : ∀ j (hj : j < l.length), (w.alloc (.cells ((l.map (Value.int .i64)).toArray) 3)).cell? ⟨w.heap.size, j, none⟩ = some (.int .i64 l[j]) := by
  intro j hj
  rw [cell_of_row _ w.heap.size j _ 3 (0, 0) (heap_new w _)]
  simp [hj]
theorem txt_of (S : ByteArray) : ∃ s : List UInt8, S = ⟨s.toArray⟩ ∧ s.length = S.size := ⟨S.data.toList, by cases S; simp, by cases S; simp [ByteArray.size]⟩
set_option maxRecDepth 100000 in
set_option maxHeartbeats 2000000 in
theorem keysD (C B : Nat) (a : Option Addr) (len cap : Nat) (w : World) (hC : Cur w C a len cap) (hB : B ≤ C) (hcode : CodeOk w B a len) :
    Calls Tryz.prog 82 #[.pointer (some ⟨C, 0, none⟩)] w fun e w' => ∃ S : ByteArray, e = .returned (.string S) ∧ S.size ≤ 16 ∧ Drawn w w' C B a len cap := by
  have hCl := cur_lt hC
  have HD0 : Hid (Drawn w w C B a len cap) := ⟨hC, hcode, World.grownBy.refl _ _⟩
  clear hC hcode
  go_enter Tryz.func82, Tryz.ntmps82
  go_wp2
  go_loopg [3, 4] 3 (fun gk s i wr => ∃ (j : Nat) (S : ByteArray), j + gk = 3 ∧ j ≤ 2 ∧ s = .string S ∧ i = .int .i64 j ∧ S.size ≤ 8 * j ∧ Hid (Drawn w wr C B a len cap))
  case atStart => exact ⟨0, ⟨#[]⟩, by omega, by omega, rfl, rfl, by decide, HD0⟩
  case round =>
    clear HD0
    obtain ⟨j, S, hj, hj2, rfl, rfl, hs, HD⟩ := hrel
    go_wp2_with fail
    refine (below28 C B a len cap 3 (by omega) (by omega) _ HD.out.1 hB HD.out.2.1).mono ?_
    rintro e w1 ⟨x, rfl, x0, x1, hD⟩
    have HD1 : Hid (Drawn w w1 C B a len cap) := drawn_trans HD.out hD
    clear hD HD
    by_cases hx : (j : Int) < x
    · have hCl1 : C < w1.heap.size := Nat.lt_of_lt_of_le hCl HD1.out.2.2.size
      have HD2 : Hid (Drawn w (w1.alloc (.cells (keyL.map Value.string).toArray 9)) C B a len cap) := drawn_alloc HD1.out (by omega) _
      go_wp2_with fail
      refine (pickS C B a len cap keyL 11 w1.heap.size 11 rfl (by decide) (by decide) _ HD2.out.1 hB HD2.out.2.1 (by omega) (by simp) (laid_strs _ keyL)).mono ?_
      rintro e w3 ⟨x3, rfl, hx3, hD⟩
      have HD3 : Hid (Drawn w w3 C B a len cap) := drawn_trans HD2.out hD
      have hs3 := keyL_size x3 hx3
      have HS : Hid ((S ++ x3).size ≤ 8 * (j + 1)) := by show _ ≤ _; rw [ByteArray.size_append]; omega
      have hs16 : S.size ≤ 16 := by omega
      have qi : IntKind.i64.wrap ((j : Int) + 1) = (j : Int) + 1 := wrap_in (by omega) (by omega)
      clear hD HD1 HD2 hx3
      go_wp2
      go_roundg (gk - 1)
      case measure => omega
      case rel => exact ⟨j + 1, S ++ x3, by omega, by omega, rfl, by go_num, HS.out, HD3⟩
    · have hs16 : S.size ≤ 16 := by omega
      go_wp2
      go_ret
      exact ⟨S, rfl, hs16, HD1.out⟩
/-- what stands while a menu is drawn -/
structure LM (w W : World) (C B : Nat) (a : Option Addr) (len cap X : Nat) (M : Mn) : Prop where
  d : Drawn w W C B a len cap
  z : W.heap[w.heap.size]? = some (.cells #[.int .i64 0, .bool false, .int .i64 0, .int .i64 0, .string ⟨#[]⟩] 32)
  p : W.heap[X]? = some (.cells #[.int .i64 M.a, .bool M.b, .int .i64 M.n, .int .i64 M.d, .string ⟨M.s.toArray⟩] 32)
theorem LM.on {w W W' : World} {C B : Nat} {a : Option Addr} {len cap X : Nat} {M : Mn} (h : LM w W C B a len cap X M) (hd : Drawn W W' C B a len cap) (hX : X ≠ C) (hC : C < w.heap.size) : LM w W' C B a len cap X M :=
  ⟨drawn_trans h.d hd, row_drawn h.z hd.2.2 (by omega), row_drawn h.p hd.2.2 hX⟩
theorem LM.al {w W : World} {C B : Nat} {a : Option Addr} {len cap X : Nat} {M : Mn} (h : LM w W C B a len cap X M) (hB : B ≤ W.heap.size) (o : Obj) : LM w (W.alloc o) C B a len cap X M :=
  ⟨drawn_alloc h.d hB _, row_on h.z (alM _ _), row_on h.p (alM _ _)⟩
theorem LM.put {w W W' : World} {C B : Nat} {a : Option Addr} {len cap X : Nat} {M M' : Mn} (h : LM w W C B a len cap X M) (hp : PutM W W' X (.cells #[.int .i64 M'.a, .bool M'.b, .int .i64 M'.n, .int .i64 M'.d, .string ⟨M'.s.toArray⟩] 32)) (hX : w.heap.size < X) (hC : C < w.heap.size) (hB : B ≤ C) : LM w W' C B a len cap X M' :=
  ⟨drawn_putM h.d hp (by omega) hC hB, hp.far h.z (by omega), hp.1⟩
def keyZs : List Int := [98, 111, 112, 103, 115, 120, 99, 113, 10, 10, 48, 57, 53, -1, 300]
theorem keyZs_cells (w : World) : ∀ j (hj : j < keyZs.length), (w.alloc (.cells ((keyZs.map (Value.int .i64)).toArray) 3)).cell? ⟨w.heap.size, j, none⟩ = some (.int .i64 keyZs[j]) := by
  intro j hj
  rw [cell_of_row _ w.heap.size j _ 3 (0, 0) (heap_new w _)]
  simp [hj]
end Go.Proofs.YtdifmjcghaoilaaGreatDoor
