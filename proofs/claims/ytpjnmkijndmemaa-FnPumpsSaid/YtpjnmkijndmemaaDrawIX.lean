/-
  Drawn texts, instructions, code: the contracts of the specification's draws.
-/
import Derived.Test.YtpjnmkijndmemaaBytes0X
import Derived.Test.YtpjnmkijndmemaaOwnII
import Derived.Test.YtpjnmkijndmemaaSetsX
import Derived.Test.YtpjnmkijndmemaaDraw
import Derived.Test.YtpjnmkijndmemaaInts
namespace Go.Proofs.Ytpjnmkijndmemaa.I
open Go.RowKit Go.PlainAid
set_option linter.unusedVariables false

theorem row_drawn {W W' : World} {k C : Nat} {o : Obj} (h : W.heap[k]? = some o) (hg : W.grownBy W' (some C)) (hk : k ≠ C) : W'.heap[k]? = some o :=
  (hg.block k (row_lt h) (fun e => by cases e; exact hk rfl)).trans h

/-- what is appended to new memory, behind a draw -/
theorem drawn_grown {w W W' : World} {C B : Nat} {a : Option Addr} {len cap : Nat} {v : Value} (h : Drawn w W C B a len cap) (hg : W.grownBy W' v.ownBlock) (hv : ∀ g, v.ownBlock = some g → w.heap.size ≤ g) (hC : C < w.heap.size) (hB : B ≤ w.heap.size) : Drawn w W' C B a len cap :=
  ⟨cur_new (B := B) h.1 hg (fun g e => by have := hv g e; omega), code_below h.2.1 ((Below.refl _ _).grown hg (Nat.le_trans hB h.2.2.size) (fun g e => by have := hv g e; omega)), grown_new h.2.2 hg hv⟩

theorem drawn_drew {w W : World} {C B : Nat} {a : Option Addr} {len cap : Nat} (h : Drawn w W C B a len cap) : Drawn w W.drew C B a len cap :=
  ⟨h.1, h.2.1, ⟨h.2.2.os, h.2.2.tape, h.2.2.output, h.2.2.size, h.2.2.block⟩⟩
theorem drawn_put {w W : World} {C B : Nat} {a : Option Addr} {len cap : Nat} (h : Drawn w W C B a len cap) {k : Nat} (i : Nat) (v : Value) (hk : w.heap.size ≤ k) (hC : C < w.heap.size) (hB : B ≤ C) : Drawn w (W.setCell ⟨k, i, none⟩ v) C B a len cap := by
  obtain ⟨⟨j, x, hj, hc⟩, hcode, hg⟩ := h
  refine ⟨⟨j, x, hj, ?_⟩, code_below hcode ((Below.refl _ _).setCell (by show _ ≤ k; omega) v), ?_⟩
  · unfold CurAt
    rw [Below.heap_setCell _ _ _ _ (by show C ≠ k; omega)]
    exact hc
  · have hs : (W.setCell ⟨k, i, none⟩ v).heap.size = W.heap.size := by simp
    exact ⟨hg.os, hg.tape, hg.output, by rw [hs]; exact hg.size, fun m hm hne => (Below.heap_setCell _ _ _ _ (show m ≠ k by omega)).trans (hg.block m hm hne)⟩

theorem onceR (C B : Nat) (a : Option Addr) (len cap : Nat) (n : Int) (h0 : 0 < n) (h1 : n ≤ 256) (w : World) (hC : Cur w C a len cap) (hB : B ≤ C) (hcode : CodeOk w B a len) :
    Calls Try.prog 50 #[.pointer (some ⟨C, 0, none⟩), .int .i64 n] w fun e w' => ∃ b : Bool, e = .returned (.bool b) ∧ Drawn w w' C B a len cap := by
  have HCu : Hid (Cur w C a len cap) := hC
  have HCo : Hid (CodeOk w B a len) := hcode
  clear hC hcode
  go_enter Try.func50, Try.ntmps50
  go_wp2_with fail
  refine (below28 C B a len cap n h0 (by omega) _ HCu.out hB HCo.out).mono ?_
  rintro e w1 ⟨x, rfl, x0, x1, hD⟩
  have HD : Hid (Drawn w w1 C B a len cap) := hD
  clear hD HCu HCo
  go_wp2
  go_ret
  exact ⟨_, rfl, HD.out⟩
set_option maxRecDepth 100000 in
set_option maxHeartbeats 400000 in
theorem pick26 (C B : Nat) (a : Option Addr) (len cap : Nat) (l : List Int) (g cp : Nat) (hl : 0 < l.length) (hl2 : l.length ≤ 1000) (w : World) (hC : Cur w C a len cap) (hB : B ≤ C) (hcode : CodeOk w B a len)
    (hg : g ≠ C) (hgl : g < w.heap.size) (hcell : ∀ j (hj : j < l.length), w.cell? ⟨g, j, none⟩ = some (.int .i64 l[j])) :
    Calls Try.prog 52 #[.pointer (some ⟨C, 0, none⟩), .slice (some ⟨g, 0, none⟩) l.length cp] w fun e w' => ∃ x : Int, e = .returned (.int .i64 x) ∧ x ∈ l ∧ Drawn w w' C B a len cap := by
  have HD0 : Hid (Drawn w w C B a len cap) := ⟨hC, hcode, World.grownBy.refl _ _⟩
  have HC : Hid (∀ j (hj : j < l.length), w.cell? ⟨g, j, none⟩ = some (.int .i64 l[j])) := hcell
  clear hC hcode hcell
  go_enter Try.func52, Try.ntmps52
  go_wp2_with fail
  refine (below28 C B a len cap _ (by omega) (by omega) _ HD0.out.1 hB HD0.out.2.1).mono ?_
  rintro e w1 ⟨x, rfl, x0, x1, hD⟩
  obtain ⟨n, rfl⟩ := Int.eq_ofNat_of_zero_le x0
  have hn : n < l.length := by omega
  have hc : w1.cell? ⟨g, n, none⟩ = some (.int .i64 l[n]) := (hD.2.2.cell_far ⟨g, n, none⟩ hgl (fun e => by cases e; exact hg rfl)).trans (HC.out n hn)
  have hm : l[n] ∈ l := List.getElem_mem hn
  have HD : Hid (Drawn w w1 C B a len cap) := hD
  clear hD HD0
  have HM : Hid (l[n] ∈ l) := hm
  clear hm
  go_wp2
  go_ret
  exact ⟨_, rfl, HM.out, HD.out⟩

theorem pick26' (C B : Nat) (a : Option Addr) (len cap : Nat) (l : List Int) (n g cp : Nat) (hn : l.length = n) (hl : 0 < n) (hl2 : n ≤ 1000) (w : World) (hC : Cur w C a len cap) (hB : B ≤ C) (hcode : CodeOk w B a len)
    (hg : g ≠ C) (hgl : g < w.heap.size) (hcell : ∀ j (hj : j < l.length), w.cell? ⟨g, j, none⟩ = some (.int .i64 l[j])) :
    Calls Try.prog 52 #[.pointer (some ⟨C, 0, none⟩), .slice (some ⟨g, 0, none⟩) n cp] w fun e w' => ∃ x : Int, e = .returned (.int .i64 x) ∧ x ∈ l ∧ Drawn w w' C B a len cap := by
  subst hn; exact pick26 C B a len cap l g cp hl hl2 w hC hB hcode hg hgl hcell
theorem byte_nat {x : Int} (h0 : 0 ≤ x) (h1 : x ≤ 255) : ((UInt8.ofNat x.toNat).toNat : Int) = x := by
  rw [UInt8.toNat_ofNat']; omega

theorem laid_ints1 (w : World) (o : Obj) (l : List Int) (j : Nat) (hj : j < l.length) : ((w.alloc o).alloc (.cells (l.map (Value.int .i64)).toArray 3)).cell? ⟨w.heap.size + 1, j, none⟩ = some (.int .i64 l[j]) := by
  have h := laid_ints (w.alloc o) l j hj
  have e : (w.alloc o).heap.size = w.heap.size + 1 := by simp
  rw [e] at h
  exact h

end Go.Proofs.Ytpjnmkijndmemaa.I
