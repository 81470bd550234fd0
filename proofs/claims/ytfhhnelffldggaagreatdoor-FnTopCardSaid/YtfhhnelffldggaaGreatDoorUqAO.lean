/-
  Drawn ports: the contracts of the specification's draws.
-/
import Derived.Test.YtfhhnelffldggaaGreatDoorUqAN
import Derived.Test.YtfhhnelffldggaaGreatDoorUqAL
import Derived.Test.YtfhhnelffldggaaGreatDoorUqAD
import Derived.Test.YtfhhnelffldggaaGreatDoorUqAF
import Derived.Test.YtfhhnelffldggaaGreatDoorUqAM
set_option maxRecDepth 100000
set_option maxHeartbeats 16000000
namespace Go.Proofs.YtfhhnelffldggaaGreatDoor.P
open Go.RowKit Go.PlainAid
set_option linter.unusedVariables false
theorem row_drawn {W W' : World} {k C : Nat} {o : Obj} (h : W.heap[k]? = some o) (hg : W.grownBy W' (some C)) (hk : k ≠ C) : W'.heap[k]? = some o :=
  (hg.block k (row_lt h) (fun e => by cases e; exact hk rfl)).trans h
theorem drawn_grown {w W W' : World} {C B : Nat} {a : Option Addr} {len cap : Nat} {v : Value} (h : Drawn w W C B a len cap) (hg : W.grownBy W' v.ownBlock) (hv : ∀ g, v.ownBlock = some g → w.heap.size ≤ g) (hC : C < w.heap.size) (hB : B ≤ w.heap.size) : Drawn w W' C B a len cap :=
  ⟨cur_new (B := B) h.1 hg (fun g e => by have := hv g e; omega), code_below h.2.1 ((Below.refl _ _).grown hg (Nat.le_trans hB h.2.2.size) (fun g e => by have := hv g e; omega)), grown_new h.2.2 hg hv⟩
theorem drawn_drew {w W : World} {C B : Nat} {a : Option Addr} {len cap : Nat} (h : Drawn w W C B a len cap) : Drawn w W.drew C B a len cap :=
  ⟨h.1, h.2.1, ⟨h.2.2.os, h.2.2.tape, h.2.2.output, h.2.2.size, h.2.2.block⟩⟩
theorem drawn_put {w W : World} {C B : Nat} {a : Option Addr} {len cap : Nat} (h : Drawn w W C B a len cap) {k : Nat} (i : Nat) (v : Value) (hk : w.heap.size ≤ k) (hC : C < w.heap.size) (hB : B ≤ C) : Drawn w (W.setCell ⟨k, i, none⟩ v) C B a len cap := by
  obtain ⟨⟨j, x, hj, hc⟩, hcode, hg⟩ := h
  refine ⟨⟨j, x, hj, ?_⟩, code_below hcode ((Below.refl _ _).setCell (by show _ ≤ k; omega) v), ?_⟩
  · unfold CurAt
    rw [Below.heap_setCell _ _ _ _ (by show C ≠ k; omega)]
    exact hc
  · have hs : (W.setCell ⟨k, i, none⟩ v).heap.size = W.heap.size := by simp
    exact ⟨hg.os, hg.tape, hg.output, by rw [hs]; exact hg.size, fun m hm hne => (Below.heap_setCell _ _ _ _ (show m ≠ k by omega)).trans (hg.block m hm hne)⟩
theorem onceR (C B : Nat) (a : Option Addr) (len cap : Nat) (n : Int) (h0 : 0 < n) (h1 : n ≤ 256) (w : World) (hC : Cur w C a len cap) (hB : B ≤ C) (hcode : CodeOk w B a len) :
    Calls Tryz.prog 123 #[.pointer (some ⟨C, 0, none⟩), .int .i64 n] w fun e w' => ∃ b : Bool, e = .returned (.bool b) ∧ Drawn w w' C B a len cap := by
  have HCu := hq hC
  have HCo := hq hcode
  clear hC hcode
  go_enter Tryz.func123, Tryz.ntmps123
  go_wp2_with fail
  refine (below28 C B a len cap n h0 (by omega) _ HCu.out hB HCo.out).mono ?_
  rintro e w1 ⟨x, rfl, x0, x1, hD⟩
  have HD := hq hD
  clear hD HCu HCo
  go_wp2
  go_ret
  exact ⟨_, rfl, HD.out⟩
theorem laid_ints1 (w : World) (o : Obj) (l : List Int) (j : Nat) (hj : j < l.length) : ((w.alloc o).alloc (.cells (l.map (Value.int .i64)).toArray 3)).cell? ⟨w.heap.size + 1, j, none⟩ = some (.int .i64 l[j]) := by
  have h := laid_ints (w.alloc o) l j hj
  have e : (w.alloc o).heap.size = w.heap.size + 1 := by simp
  rw [e] at h
  exact h
end Go.Proofs.YtfhhnelffldggaaGreatDoor.P
namespace Go.Proofs.YtfhhnelffldggaaGreatDoor
open Go.RowKit Go.PlainAid
set_option linter.unusedVariables false
theorem sp_keep {w W W' : World} {C B : Nat} {a : Option Addr} {len cap : Nat} (hD : Drawn W W' C B a len cap) (h : Drawn w W C B a len cap) : Drawn w W' C B a len cap := drawn_trans h hD
theorem spoiltD (C B : Nat) (a : Option Addr) (len cap : Nat) (s : ByteArray) (hs : s.size ≤ 500000) (w : World) (hC : Cur w C a len cap) (hB : B ≤ C) (hcode : CodeOk w B a len) :
    Calls Tryz.prog 127 #[.pointer (some ⟨C, 0, none⟩), .string s] w fun e w' => ∃ t : ByteArray, e = .returned (.string t) ∧ t.size ≤ s.size + 1 ∧ Drawn w w' C B a len cap := by
  have HD0 : Hid (Drawn w w C B a len cap) := ⟨hC, hcode, World.grownBy.refl _ _⟩
  clear hC hcode
  go_enter Tryz.func127, Tryz.ntmps127
  go_wp2_with fail
  refine (below28 C B a len cap 12 (by omega) (by omega) _ HD0.out.1 hB HD0.out.2.1).mono ?_
  rintro e w1 ⟨y, rfl, y0, y1, hD⟩
  have HD1 := hq hD
  clear hD HD0
  have ways : y = 0 ∨ y = 1 ∨ y = 2 ∨ y = 3 ∨ ((y == 0) = false ∧ (y == 1) = false ∧ (y == 2) = false ∧ (y == 3) = false) := by
    by_cases h1 : y = 0
    · exact .inl h1
    · by_cases h2 : y = 1
      · exact .inr (.inl h2)
      · by_cases h3 : y = 2
        · exact .inr (.inr (.inl h3))
        · by_cases h4 : y = 3
          · exact .inr (.inr (.inr (.inl h4)))
          · exact .inr (.inr (.inr (.inr ⟨by simpa using h1, by simpa using h2, by simpa using h3, by simpa using h4⟩)))
  rcases ways with rfl | rfl | rfl | rfl | ⟨g1, g2, g3, g4⟩
  · go_wp2_with fail
    refine (I.textD C B a len cap 1 (by omega) _ HD1.out.1 hB HD1.out.2.1).mono ?_
    rintro e w2 ⟨t, rfl, ht, hD⟩
    have HD2 : Hid (Drawn w w2 C B a len cap) := drawn_trans HD1.out hD
    clear hD HD1
    go_wp2
    go_ret
    exact ⟨_, rfl, by rw [ByteArray.size_append]; omega, HD2.out⟩
  · go_wp2_with fail
    refine (below28 C B a len cap ((s.size : Int) + 1) (by omega) (by omega) _ HD1.out.1 hB HD1.out.2.1).mono ?_
    rintro e w2 ⟨x, rfl, x0, x1, hD⟩
    obtain ⟨n, rfl⟩ := Int.eq_ofNat_of_zero_le x0
    have hn : n ≤ s.size := by omega
    have HD2 : Hid (Drawn w w2 C B a len cap) := drawn_trans HD1.out hD
    clear hD HD1
    go_wp2
    go_ret
    exact ⟨_, rfl, by rw [ByteArray.size_extract]; omega, HD2.out⟩
  · by_cases hp : 0 < s.size
    · have hp' : (0 : Int) < (s.size : Int) := by omega
      go_wp2_with fail
      refine (below28 C B a len cap (s.size : Int) (by omega) (by omega) _ HD1.out.1 hB HD1.out.2.1).mono ?_
      rintro e w2 ⟨x, rfl, x0, x1, hD⟩
      obtain ⟨n, rfl⟩ := Int.eq_ofNat_of_zero_le x0
      have hn : n < s.size := by omega
      have HD2 : Hid (Drawn w w2 C B a len cap) := drawn_trans HD1.out hD
      have hw0 : IntKind.i64.wrap ((n : Int) + 1) = (n : Int) + 1 := IntWalk.i64_in _ (by omega)
      have a0 : (0 : Int) ≤ (n : Int) := by omega
      have a1 : (n : Int) ≤ (s.size : Int) := by omega
      have a2 : (n : Int) + 1 ≤ (s.size : Int) := by omega
      have a3 : (0 : Int) ≤ (n : Int) + 1 := by omega
      have hz1 : (s.extract 0 n).size ≤ 500000 := by rw [ByteArray.size_extract]; omega
      have hz2 : (s.extract (n + 1) s.size).size ≤ 500000 := by rw [ByteArray.size_extract]; omega
      have b1 : ¬9223372036854775807 < min n s.size + 1 := by omega
      have b2 : ¬9223372036854775807 < min n s.size + 1 + (s.size - (n + 1)) := by omega
      clear hD HD1
      go_wp2_with fail
      go_region_held3 (fun w' => Drawn w w' C B a len cap) (first | assumption | (exact P.drawn_drew HD2.out) | (refine sp_keep (by assumption) ?_; assumption)) (first | (go_at_call 164; refine (I.textD C B a len cap 1 (by omega) _ ?_ hB ?_).mono ?_; (exact (show Drawn _ _ _ _ _ _ _ by assumption).1); (exact (show Drawn _ _ _ _ _ _ _ by assumption).2.1); rintro e w3 ⟨t, rfl, ht, hD⟩))
      rename_i HH
      have HD3 : Hid (Drawn w w3 C B a len cap) := HH
      clear HH hD HD2
      go_wp2
      go_ret
      exact ⟨_, rfl, by simp only [ByteArray.size_append, ByteArray.size_extract]; omega, HD3.out⟩
    · have hp' : ¬ (0 : Int) < (s.size : Int) := by omega
      go_wp2
      go_ret
      exact ⟨s, rfl, by omega, HD1.out⟩
  · by_cases hp : 0 < s.size
    · have hp' : (0 : Int) < (s.size : Int) := by omega
      go_wp2_with fail
      refine (below28 C B a len cap (s.size : Int) (by omega) (by omega) _ HD1.out.1 hB HD1.out.2.1).mono ?_
      rintro e w2 ⟨x, rfl, x0, x1, hD⟩
      obtain ⟨n, rfl⟩ := Int.eq_ofNat_of_zero_le x0
      have hn : n < s.size := by omega
      have HD2 : Hid (Drawn w w2 C B a len cap) := drawn_trans HD1.out hD
      have hw0 : IntKind.i64.wrap ((n : Int) + 1) = (n : Int) + 1 := IntWalk.i64_in _ (by omega)
      have a0 : (0 : Int) ≤ (n : Int) := by omega
      have a1 : (n : Int) ≤ (s.size : Int) := by omega
      have a2 : (n : Int) + 1 ≤ (s.size : Int) := by omega
      have a3 : (0 : Int) ≤ (n : Int) + 1 := by omega
      have hz1 : (s.extract 0 n).size ≤ 500000 := by rw [ByteArray.size_extract]; omega
      have hz2 : (s.extract (n + 1) s.size).size ≤ 500000 := by rw [ByteArray.size_extract]; omega
      have b1 : ¬9223372036854775807 < min n s.size + 1 := by omega
      have b2 : ¬9223372036854775807 < min n s.size + 1 + (s.size - (n + 1)) := by omega
      clear hD HD1
      go_wp2_with fail
      go_region_held3 (fun w' => Drawn w w' C B a len cap) (first | assumption | (exact P.drawn_drew HD2.out) | (refine sp_keep (by assumption) ?_; assumption)) (first | (go_at_call 164; refine (I.textD C B a len cap 1 (by omega) _ ?_ hB ?_).mono ?_; (exact (show Drawn _ _ _ _ _ _ _ by assumption).1); (exact (show Drawn _ _ _ _ _ _ _ by assumption).2.1); rintro e w3 ⟨t, rfl, ht, hD⟩))
      rename_i HH
      have HD3 : Hid (Drawn w w3 C B a len cap) := HH
      clear HH hD HD2
      go_wp2
      go_ret
      exact ⟨_, rfl, by simp only [ByteArray.size_append, ByteArray.size_extract]; omega, HD3.out⟩
    · have hp' : ¬ (0 : Int) < (s.size : Int) := by omega
      go_wp2
      go_ret
      exact ⟨s, rfl, by omega, HD1.out⟩
  · go_wp2
    go_ret
    exact ⟨s, rfl, by omega, HD1.out⟩
end Go.Proofs.YtfhhnelffldggaaGreatDoor
