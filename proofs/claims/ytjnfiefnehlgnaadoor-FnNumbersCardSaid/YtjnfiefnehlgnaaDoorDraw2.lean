/-
  The contracts of the specification's draws, gone on: texts, a pick, the cursor's making, chapter 1's two draws.
-/
import Derived.Test.YtjnfiefnehlgnaaDoorDraw
namespace Go.Proofs.YtjnfiefnehlgnaaDoor
open Go.RowKit Plain Go.PlainAid
set_option linter.unusedVariables false

theorem byte_nat {x : Int} (h0 : 0 ≤ x) (h1 : x ≤ 255) : ((UInt8.ofNat x.toNat).toNat : Int) = x := by
  rw [UInt8.toNat_ofNat']; omega

set_option maxHeartbeats 1000000 in
theorem text22 (C B : Nat) (a : Option Addr) (len cap : Nat) (n : Nat) (hn : n ≤ 5000) (w : World) (hC : Cur w C a len cap) (hB : B ≤ C) (hcode : CodeOk w B a len) :
    Calls Tryd.prog 22 #[.pointer (some ⟨C, 0, none⟩), .int .i64 n] w fun e w' => ∃ t : ByteArray, e = .returned (.string t) ∧ t.size = n ∧ Drawn w w' C B a len cap := by
  obtain ⟨i0, hi, hz0, hz1, hz2⟩ := info_parts info5
  have hlt := cur_lt hC
  have HD0 : Hid (Drawn w (w.alloc (.cells #[] 5)) C B a len cap) := drawn_alloc ⟨hC, hcode, World.grownBy.refl _ _⟩ (by omega) _
  have how := own_empty w
  clear hC hcode
  go_enter Tryd.func22, Tryd.ntmps22
  go_wp2
  go_loopw [5, 6] (fun v i wr => ∃ (k : Nat) (xs : List UInt8), k ≤ n ∧ i = .int .i64 k ∧ Hid (xs.length = k) ∧ xs.length ≤ 5000 ∧ Hid (Drawn w wr C B a len cap) ∧ wr.ownsRow w.heap.size 5 1 v xs.length (bytesV xs)) (fun _ i _ => n - (intOf i).toNat)
  case atStart => exact ⟨0, [], Nat.zero_le _, rfl, (show Hid _ from rfl), by simp, HD0, how⟩
  case round =>
    clear how HD0
    obtain ⟨k, xs, hk, rfl, HX, hx, HD, hown⟩ := hrel
    have hsz := HD.out.2.2.size
    by_cases hlt2 : k < n
    · go_wp2_with fail
      refine (byte27 C B a len cap _ HD.out.1 hB HD.out.2.1).mono ?_
      rintro e w1 ⟨x, rfl, x0, x1, hC1, hg1⟩
      have hown1 := own_grown hown hg1 hlt
      have HD1 : Hid (Drawn w w1 C B a len cap) := drawn_trans HD.out ⟨hC1, code_grown HD.out.2.1 hg1 hB (by omega), hg1⟩
      have s1 := HD1.out.2.2.size
      clear hC1 hg1 HD hown
      go_wp2_with (at_builtin; refine wpList_append_own _ rfl _ _ 22 rfl w.heap.size 5 i0 (.int .u8 0) 1 1 Tryd.underlying22 hi hz0 hz1 hz2 rfl (by decide) _ _ _ rfl (hown1.alloc _) ⟨w1.heap.size, 0, none⟩ 1 1 [.int .u8 x] rfl rfl ?c1 ?c2 ?c3 ?c4 ?c5 ?_)
      case c1 => exact one_cell w1 _ _ rfl
      case c2 => intro u hu; simp at hu; subst hu; rfl
      case c3 => unfold maxLen; omega
      case c4 => omega
      case c5 => simp; omega
      intro v' w2 hown2 hgrow _
      have HD2 : Hid (Drawn w w2 C B a len cap) := by
        have h1 := drawn_alloc HD1.out (by omega) (.cells #[.int .u8 x] 5)
        have hv := own_ge hown1
        refine ⟨cur_new (B := B) h1.1 hgrow (fun g hg => by have := hv g hg; omega), ?_, grown_new h1.2.2 hgrow hv⟩
        exact code_below h1.2.1 ((Below.refl _ _).grown hgrow (by simp; omega) (fun g hg => by have := hv g hg; omega))
      have hown3 : w2.ownsRow w.heap.size 5 1 v' (xs ++ [UInt8.ofNat x.toNat]).length (bytesV (xs ++ [UInt8.ofNat x.toNat])) := by
        rw [show bytesV (xs ++ [UInt8.ofNat x.toNat]) = bytesV xs ++ [.int .u8 x] by simp only [bytesV, List.map_append, List.map_cons, List.map_nil, byte_nat x0 x1], List.length_append]
        exact hown2
      clear hown2 hgrow hown1 HD1
      go_wp2
      go_roundw
      case rel => exact ⟨k + 1, xs ++ [UInt8.ofNat x.toNat], by omega, by go_num, (show Hid _ from by have := HX.out; simp [Hid]; omega), by have := HX.out; simp; omega, HD2, hown3⟩
      case measure => simp [intOf]; omega
    · obtain ⟨ao, cp, hv, hcv⟩ := own_text hown
      clear hown
      subst hv
      go_wp2
      go_ret
      exact ⟨_, rfl, by show xs.toArray.size = n; rw [List.size_toArray]; have := HX.out; omega, HD.out⟩

set_option maxHeartbeats 1000000 in
theorem long20 (n : Nat) (hn : n ≤ 1000000) (x : UInt8) (w : World) :
    Calls Tryd.prog 20 #[.int .i64 n, .int .u8 (x.toNat : Int)] w fun e w' => ∃ t : ByteArray, e = .returned (.string t) ∧ t.size = n ∧ Below w.heap.size w w' := by
  obtain ⟨i0, hi, hz0, hz1, hz2⟩ := info_parts info5
  go_enter Tryd.func20, Tryd.ntmps20
  go_wp2_with (at_make; refine wpList_make_full _ rfl _ _ 22 rfl w.heap.size 5 i0 (.int .u8 0) 1 Tryd.underlying22 hi hz0 hz1 .i64 .i64 _ _ n rfl rfl rfl rfl (by rw [hz2]; omega) (by unfold maxLen; omega) (Nat.le_refl _) ?_; intro w1 hown hgrow)
  have hb1 : Below w.heap.size w w1 := (Below.refl _ _).grown hgrow (Nat.le_refl _) (fun k h => by cases h)
  have hown0 : w1.ownsRow w.heap.size 5 1 (.slice (some ⟨w.heap.size, 0, none⟩) n n) n (bytesV (List.replicate n 0)) := by
    have e : (madeCells (Value.int .u8 0).cells (n * 1)).toList = bytesV (List.replicate n 0) := by
      rw [Nat.mul_one]
      show (madeCells #[.int .u8 0] n).toList = _
      rw [toList_madeCells_one]
      simp [bytesV]
    rw [← e]; exact hown
  clear hown hgrow
  go_loopw [6] (fun i wr => ∃ (k : Nat) (ys : List UInt8), k ≤ n ∧ i = .int .i64 k ∧ Hid (ys.length = n) ∧ wr.ownsRow w.heap.size 5 1 (.slice (some ⟨w.heap.size, 0, none⟩) n n) n (bytesV ys) ∧ Below w.heap.size w wr) (fun i _ => n - (intOf i).toNat)
  case atStart => exact ⟨0, _, Nat.zero_le _, rfl, (show Hid _ from List.length_replicate ..), hown0, hb1⟩
  case round =>
    clear hown0 hb1
    obtain ⟨k, ys, hk, rfl, HY, hown, hnx⟩ := hrel
    by_cases hlt : k < n
    · have hcell := hown.cellAt k (by omega)
      have hfr := hown.frozenAt k
      have hst := (hown.stored k (.int .u8 (x.toNat : Int))).1
      rw [show (bytesV ys).set k (.int .u8 (x.toNat : Int)) = bytesV (ys.set k x) by unfold bytesV; rw [List.map_set]] at hst
      rw [show (bytesV ys)[k]? = some (.int .u8 ((ys[k]'(by have := HY.out; omega)).toNat : Int)) by simp [bytesV, HY.out, hlt]] at hcell
      generalize ys[k]'(by have := HY.out; omega) = old at hcell
      clear hown
      go_wp2
      go_roundw
      case rel => exact ⟨k + 1, ys.set k x, by omega, by go_num, (show Hid _ from by have := HY.out; simp [Hid]; omega), hst, hnx.setCell (Nat.le_refl _) _⟩
      case measure => simp [intOf]; omega
    · obtain ⟨ao, cp, hv, hcv⟩ := own_text (by rw [HY.out]; exact hown)
      rw [HY.out] at hv
      rw [hv] at hcv
      cases hv
      clear hown
      go_wp2
      go_ret
      exact ⟨_, rfl, by show ys.toArray.size = n; rw [List.size_toArray]; exact HY.out, hnx⟩

theorem long20' (N X : Int) (n : Nat) (x : UInt8) (hN : N = n) (hX : X = (x.toNat : Int)) (hn : n ≤ 1000000) (w : World) :
    Calls Tryd.prog 20 #[.int .i64 N, .int .u8 X] w fun e w' => ∃ t : ByteArray, e = .returned (.string t) ∧ t.size = n ∧ Below w.heap.size w w' := by
  subst hN hX; exact long20 n hn x w

set_option maxRecDepth 10000 in
set_option maxHeartbeats 1000000 in
theorem new16 (B : Nat) (a : Option Addr) (len cap : Nat) (w : World) (hcode : CodeOk w B a len) (hB : B ≤ w.heap.size) :
    Calls Tryd.prog 16 #[.slice a len cap] w fun e w' => ∃ C : Nat, e = .returned (.pointer (some ⟨C, 0, none⟩)) ∧ w.heap.size ≤ C ∧ Cur w' C a len cap ∧ CodeOk w' B a len ∧ Below w.heap.size w w' := by
  obtain ⟨hlen, hbytes⟩ := hcode
  have HC : Hid (CodeOk w B a len) := ⟨hlen, hbytes⟩
  have e30 := and30
  go_enter Tryd.func16, Tryd.ntmps16
  go_wp2
  go_loopw [3, 4] (fun hv i wr => ∃ (k : Nat) (h : Int), k ≤ len ∧ i = .int .i64 k ∧ hv = .int .i64 h ∧ wr = w) (fun _ i _ => len - (intOf i).toNat)
  case atStart => exact ⟨0, _, Nat.zero_le _, rfl, rfl, rfl⟩
  case round =>
    obtain ⟨k, h, hk, rfl, rfl, rfl⟩ := hrel
    by_cases hlt : k < len
    · by_cases h4 : (k : Int) < 4000
      · obtain ⟨b, off, rfl, hbB, hrow⟩ := hbytes (by omega)
        obtain ⟨z, z0, z1, hz⟩ := hrow k hlt
        clear hbytes hrow
        have i0 : (0 : Int) ≤ (k : Int) := by omega
        have i1 : (k : Int) < (len : Int) := by omega
        go_wp2
        go_roundw
        case rel => exact ⟨k + 1, _, by omega, by go_num, rfl, trivial⟩
        case measure => simp [intOf]; omega
      · clear hbytes
        go_wp2
        go_ret
        exact ⟨_, rfl, Nat.le_refl _, ⟨0, h, Nat.zero_le _, heap_alloc_new _ _⟩, code_below HC.out ((Below.refl _ _).alloc hB _), (Below.refl _ _).alloc (Nat.le_refl _) _⟩
    · clear hbytes
      go_wp2
      go_ret
      exact ⟨_, rfl, Nat.le_refl _, ⟨0, h, Nat.zero_le _, heap_alloc_new _ _⟩, code_below HC.out ((Below.refl _ _).alloc hB _), (Below.refl _ _).alloc (Nat.le_refl _) _⟩

set_option maxHeartbeats 400000 in
theorem pick25 (C B : Nat) (a : Option Addr) (len cap : Nat) (l : List Int) (g cp : Nat) (hl : 0 < l.length) (hl2 : l.length ≤ 1000) (w : World) (hC : Cur w C a len cap) (hB : B ≤ C) (hcode : CodeOk w B a len)
    (hg : g ≠ C) (hgl : g < w.heap.size) (hcell : ∀ j (hj : j < l.length), w.cell? ⟨g, j, none⟩ = some (.int .i64 l[j])) :
    Calls Tryd.prog 25 #[.pointer (some ⟨C, 0, none⟩), .slice (some ⟨g, 0, none⟩) l.length cp] w fun e w' => ∃ x : Int, e = .returned (.int .i64 x) ∧ x ∈ l ∧ Drawn w w' C B a len cap := by
  have HD0 : Hid (Drawn w w C B a len cap) := ⟨hC, hcode, World.grownBy.refl _ _⟩
  have HC : Hid (∀ j (hj : j < l.length), w.cell? ⟨g, j, none⟩ = some (.int .i64 l[j])) := hcell
  clear hC hcode hcell
  go_enter Tryd.func25, Tryd.ntmps25
  go_wp2_with fail
  refine (below21 C B a len cap _ (by omega) (by omega) _ HD0.out.1 hB HD0.out.2.1).mono ?_
  rintro e w1 ⟨x, rfl, x0, x1, hD⟩
  obtain ⟨n, rfl⟩ := Int.eq_ofNat_of_zero_le x0
  have hn : n < l.length := by omega
  have hc : w1.cell? ⟨g, n, none⟩ = some (.int .i64 l[n]) := (hD.2.2.cell_far ⟨g, n, none⟩ hgl (fun e => by cases e; exact hg rfl)).trans (HC.out n hn)
  have hm : l[n] ∈ l := List.getElem_mem hn
  have HD : Hid (Drawn w w1 C B a len cap) := hD
  clear hD HD0
  have HM : Hid (l[n] ∈ l) := hm
  clear hm
  go_wp2
  go_ret
  exact ⟨_, rfl, HM.out, HD.out⟩

theorem pick25' (C B : Nat) (a : Option Addr) (len cap : Nat) (l : List Int) (n g cp : Nat) (hn : l.length = n) (hl : 0 < n) (hl2 : n ≤ 1000) (w : World) (hC : Cur w C a len cap) (hB : B ≤ C) (hcode : CodeOk w B a len)
    (hg : g ≠ C) (hgl : g < w.heap.size) (hcell : ∀ j (hj : j < l.length), w.cell? ⟨g, j, none⟩ = some (.int .i64 l[j])) :
    Calls Tryd.prog 25 #[.pointer (some ⟨C, 0, none⟩), .slice (some ⟨g, 0, none⟩) n cp] w fun e w' => ∃ x : Int, e = .returned (.int .i64 x) ∧ x ∈ l ∧ Drawn w w' C B a len cap := by
  subst hn; exact pick25 C B a len cap l g cp hl hl2 w hC hB hcode hg hgl hcell
/-- a list of ints that has just been laid -/
theorem laid_ints (w : World) (l : List Int) (j : Nat) (hj : j < l.length) : (w.alloc (.cells (l.map (Value.int .i64)).toArray 3)).cell? ⟨w.heap.size, j, none⟩ = some (.int .i64 l[j]) := by
  rw [cell_of_row _ w.heap.size j _ 3 (0, 0) (heap_alloc_new w _)]
  simp [hj]

set_option maxHeartbeats 1000000 in
theorem number15 (C B : Nat) (a : Option Addr) (len cap : Nat) (w : World) (hC : Cur w C a len cap) (hB : B ≤ C) (hcode : CodeOk w B a len) :
    Calls Tryd.prog 15 #[.pointer (some ⟨C, 0, none⟩)] w fun e w' => ∃ x : Int, e = .returned (.int .i64 x) ∧ -9223372036854775808 ≤ x ∧ x ≤ 9223372036854775807 ∧ Drawn w w' C B a len cap := by
  have hlt := cur_lt hC
  have HD0 : Hid (Drawn w w C B a len cap) := ⟨hC, hcode, World.grownBy.refl _ _⟩
  clear hC hcode
  go_enter Tryd.func15, Tryd.ntmps15
  go_wp2_with fail
  refine (below21 C B a len cap 4 (by omega) (by omega) _ HD0.out.1 hB HD0.out.2.1).mono ?_
  rintro e w1 ⟨x, rfl, x0, x1, hD⟩
  have HD1 : Hid (Drawn w w1 C B a len cap) := hD
  have s1 := hD.2.2.size
  clear hD HD0
  by_cases h0 : (x == 0) = true
  · have HA : Hid (∀ o, Drawn w (w1.alloc o) C B a len cap) := fun o => drawn_alloc HD1.out (by omega) o
    have hlay := laid_ints w1 [-1, 0, 127, 128, 16383, 16384, 1000000000, 1000000001, 9223372036854775807, -9223372036854775808]
    have HL : Hid _ := hlay
    have s2 := cur_lt HD1.out.1
    clear hlay
    go_wp2_with fail
    refine (pick25' C B a len cap [-1, 0, 127, 128, 16383, 16384, 1000000000, 1000000001, 9223372036854775807, -9223372036854775808] 10 _ _ rfl (by omega) (by omega) _ (HA.out _).1 hB (HA.out _).2.1 (by omega) (by simp) HL.out).mono ?_
    rintro e w2 ⟨y, rfl, hy, hD⟩
    have hy2 : -9223372036854775808 ≤ y ∧ y ≤ 9223372036854775807 := by
      simp only [List.mem_cons, List.not_mem_nil, or_false] at hy
      omega
    have HD2 : Hid (Drawn w w2 C B a len cap) := drawn_trans (HA.out _) hD
    clear hD hy HA HL HD1
    go_wp2
    go_ret
    exact ⟨_, rfl, hy2.1, hy2.2, HD2.out⟩
  · have h0' : (x == 0) = false := by simpa using h0
    clear h0
    by_cases h1 : (x == 1) = true
    · go_wp2_with fail
      refine (below21 C B a len cap 1000000000 (by omega) (by omega) _ HD1.out.1 hB HD1.out.2.1).mono ?_
      rintro e w2 ⟨y, rfl, y0, y1, hD⟩
      have HD2 : Hid (Drawn w w2 C B a len cap) := drawn_trans HD1.out hD
      clear hD HD1
      go_wp2
      go_ret
      exact ⟨_, rfl, by omega, by omega, HD2.out⟩
    · have h1' : (x == 1) = false := by simpa using h1
      clear h1
      go_wp2_with fail
      refine (below21 C B a len cap 400 (by omega) (by omega) _ HD1.out.1 hB HD1.out.2.1).mono ?_
      rintro e w2 ⟨y, rfl, y0, y1, hD⟩
      have HD2 : Hid (Drawn w w2 C B a len cap) := drawn_trans HD1.out hD
      clear hD HD1
      go_wp2
      go_ret
      exact ⟨_, rfl, by omega, by omega, HD2.out⟩

/-- from what a draw leaves to 'nothing below has turned' -/
theorem drawn_below {w w0 w' : World} {C B : Nat} {a : Option Addr} {len cap : Nat} (h0 : Below w.heap.size w w0) (hC : w.heap.size ≤ C) (h : Drawn w0 w' C B a len cap) : Below w.heap.size w w' :=
  h0.grown h.2.2 h0.size (fun k hk => by cases hk; exact hC)

set_option maxHeartbeats 400000 in
theorem draw5 (B : Nat) (a : Option Addr) (len cap : Nat) (w : World) (hcode : CodeOk w B a len) (hB : B ≤ w.heap.size) :
    Calls Tryd.prog 5 #[.slice a len cap] w fun e w' => ∃ x : Int, e = .returned (.int .i64 x) ∧ -9223372036854775808 ≤ x ∧ x ≤ 9223372036854775807 ∧ Below w.heap.size w w' := by
  have HC : Hid (CodeOk w B a len) := hcode
  clear hcode
  go_enter Tryd.func5, Tryd.ntmps5
  go_wp2_with fail
  refine (new16 B a len cap _ HC.out hB).mono ?_
  rintro e w1 ⟨C, rfl, hC, hcur, hcode, hb1⟩
  have HCu : Hid (Cur w1 C a len cap) := hcur
  have HCo : Hid (CodeOk w1 B a len) := hcode
  clear hcur hcode
  go_wp2_with fail
  refine (number15 C B a len cap _ HCu.out (by omega) HCo.out).mono ?_
  rintro e w2 ⟨x, rfl, x0, x1, hD⟩
  have hb2 := drawn_below hb1 hC hD
  clear hD hb1
  go_wp2
  go_ret
  exact ⟨_, rfl, x0, x1, hb2⟩

set_option maxHeartbeats 400000 in
theorem draw10 (B : Nat) (a : Option Addr) (len cap : Nat) (w : World) (hcode : CodeOk w B a len) (hB : B ≤ w.heap.size) :
    Calls Tryd.prog 10 #[.slice a len cap] w fun e w' => ∃ t : ByteArray, e = .returned (.string t) ∧ t.size ≤ 20001 ∧ Below w.heap.size w w' := by
  have HC : Hid (CodeOk w B a len) := hcode
  clear hcode
  go_enter Tryd.func10, Tryd.ntmps10
  go_wp2_with fail
  refine (new16 B a len cap _ HC.out hB).mono ?_
  rintro e w1 ⟨C, rfl, hC, hcur, hcode, hb1⟩
  have HCu : Hid (Cur w1 C a len cap) := hcur
  have HCo : Hid (CodeOk w1 B a len) := hcode
  have s1 := hb1.size
  clear hcur hcode
  go_wp2_with fail
  refine (once19 C B a len cap 60 (by omega) (by omega) _ HCu.out (by omega) HCo.out).mono ?_
  rintro e w2 ⟨x, rfl, hD⟩
  have HD2 : Hid (Drawn w1 w2 C B a len cap) := hD
  clear hD
  cases hx : (x == 0)
  · go_wp2_with fail
    refine (below21 C B a len cap 30 (by omega) (by omega) _ HD2.out.1 (by omega) HD2.out.2.1).mono ?_
    rintro e w3 ⟨y, rfl, y0, y1, hD⟩
    have HD3 : Hid (Drawn w1 w3 C B a len cap) := drawn_trans HD2.out hD
    clear hD HD2
    obtain ⟨n, rfl⟩ := Int.eq_ofNat_of_zero_le y0
    go_wp2_with fail
    refine (text22 C B a len cap n (by omega) _ HD3.out.1 (by omega) HD3.out.2.1).mono ?_
    rintro e w4 ⟨t, rfl, ht, hD⟩
    have hb := drawn_below hb1 hC (drawn_trans HD3.out hD)
    have ht2 : t.size ≤ 20001 := by omega
    clear hD HD3 hb1 ht
    go_wp2
    go_ret
    exact ⟨t, rfl, ht2, hb⟩
  · go_wp2_with fail
    refine (below21 C B a len cap 2 (by omega) (by omega) _ HD2.out.1 (by omega) HD2.out.2.1).mono ?_
    rintro e w3 ⟨y, rfl, y0, y1, hD⟩
    have hb3 := drawn_below hb1 hC (drawn_trans HD2.out hD)
    have s3 := hb3.size
    clear hD HD2 hb1
    go_wp2_with fail
    obtain ⟨n, rfl⟩ := Int.eq_ofNat_of_zero_le y0
    refine (long20' _ _ (20000 + n) 200 (by omega) rfl (by omega) _).mono ?_
    rintro e w4 ⟨t, rfl, ht, hb4⟩
    have hb := hb3.trans (hb4.mono s3)
    have ht2 : t.size ≤ 20001 := by omega
    clear hb4 hb3 ht
    go_wp2
    go_ret
    exact ⟨t, rfl, ht2, hb⟩
end Go.Proofs.YtjnfiefnehlgnaaDoor
