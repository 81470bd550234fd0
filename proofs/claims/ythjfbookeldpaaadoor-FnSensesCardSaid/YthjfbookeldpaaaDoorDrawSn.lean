/-
  DrawSn: the draw of a text for ReadSense.
-/
import Derived.Test.YthjfbookeldpaaaDoorPlaces
import Derived.Test.YthjfbookeldpaaaDoorSnsR
namespace Go.Proofs.YthjfbookeldpaaaDoor
open Go.RowKit Go.PlainAid
set_option linter.unusedVariables false

theorem onceN (C B : Nat) (a : Option Addr) (len cap : Nat) (n : Int) (h0 : 0 < n) (h1 : n ≤ 256) (w : World) (hC : Cur w C a len cap) (hB : B ≤ C) (hcode : CodeOk w B a len) :
    Calls Tryd.prog 21 #[.pointer (some ⟨C, 0, none⟩), .int .i64 n] w fun e w' => ∃ b : Bool, e = .returned (.bool b) ∧ Drawn w w' C B a len cap := by
  have HCu : Hid (Cur w C a len cap) := hC
  have HCo : Hid (CodeOk w B a len) := hcode
  clear hC hcode
  go_enter Tryd.func21, Tryd.ntmps21
  go_wp2_with fail
  refine (below28 C B a len cap n h0 (by omega) _ HCu.out hB HCo.out).mono ?_
  rintro e w1 ⟨x, rfl, x0, x1, hD⟩
  have HD : Hid (Drawn w w1 C B a len cap) := hD
  clear hD HCu HCo
  go_wp2
  go_ret
  exact ⟨_, rfl, HD.out⟩

set_option maxRecDepth 100000 in
set_option maxHeartbeats 400000 in
theorem pickS (C B : Nat) (a : Option Addr) (len cap : Nat) (l : List ByteArray) (m : Nat) (hm : l.length = m) (g cp : Nat) (hl : 0 < m) (hl2 : m ≤ 1000) (w : World) (hC : Cur w C a len cap) (hB : B ≤ C) (hcode : CodeOk w B a len)
    (hg : g ≠ C) (hgl : g < w.heap.size) (hcell : ∀ j (hj : j < l.length), w.cell? ⟨g, j, none⟩ = some (.string l[j])) :
    Calls Tryd.prog 22 #[.pointer (some ⟨C, 0, none⟩), .slice (some ⟨g, 0, none⟩) m cp] w fun e w' => ∃ x : ByteArray, e = .returned (.string x) ∧ Drawn w w' C B a len cap := by
  subst hm
  have HD0 : Hid (Drawn w w C B a len cap) := ⟨hC, hcode, World.grownBy.refl _ _⟩
  have HC : Hid (∀ j (hj : j < l.length), w.cell? ⟨g, j, none⟩ = some (.string l[j])) := hcell
  clear hC hcode hcell
  go_enter Tryd.func22, Tryd.ntmps22
  go_wp2_with fail
  refine (below28 C B a len cap _ (by omega) (by omega) _ HD0.out.1 hB HD0.out.2.1).mono ?_
  rintro e w1 ⟨x, rfl, x0, x1, hD⟩
  obtain ⟨n, rfl⟩ := Int.eq_ofNat_of_zero_le x0
  have hn : n < l.length := by omega
  have hc : w1.cell? ⟨g, n, none⟩ = some (.string l[n]) := (hD.2.2.cell_far ⟨g, n, none⟩ hgl (fun e => by cases e; exact hg rfl)).trans (HC.out n hn)
  have HD : Hid (Drawn w w1 C B a len cap) := hD
  clear hD HD0
  go_wp2
  go_ret
  exact ⟨_, rfl, HD.out⟩

def pickL : List ByteArray := [⟨#[]⟩, ⟨#[110, 111, 110, 101]⟩, ⟨#[97, 105, 114, 44, 98, 108, 111, 99, 107]⟩, ⟨#[98, 108, 111, 99, 107, 44, 97, 105, 114]⟩, ⟨#[100, 111, 111, 114, 44]⟩, ⟨#[112, 111, 119, 101, 114]⟩, ⟨#[110, 111, 110, 101, 44, 97, 105, 114]⟩]
theorem pick_cells (w : World) : ∀ j (hj : j < pickL.length), (w.alloc (.cells (pickL.map Value.string).toArray 9)).cell? ⟨w.heap.size, j, none⟩ = some (.string pickL[j]) := by
  intro j hj
  rw [cell_of_row _ w.heap.size j _ 9 (0, 0) (heap_alloc_new w _)]
  simp [hj]

set_option maxRecDepth 100000 in
set_option maxHeartbeats 1000000 in
theorem drawSense (a : Option Addr) (len cap : Nat) (w : World) (hcode : CodeOk w w.heap.size a len) :
    Calls Tryd.prog 11 #[.slice a len cap] w fun e w' => ∃ t : ByteArray, e = .returned (.string t) ∧ Below w.heap.size w w' := by
  have HC : Hid (CodeOk w w.heap.size a len) := hcode
  clear hcode
  go_enter Tryd.func11, Tryd.ntmps11
  go_wp2_with fail
  refine (new23 w.heap.size a len cap _ HC.out (Nat.le_refl _)).mono ?_
  rintro e w1 ⟨C, rfl, hC, hcu, hco, hb1⟩
  have HD1 : Hid (Drawn w1 w1 C w.heap.size a len cap) := ⟨hcu, hco, World.grownBy.refl _ _⟩
  have HB1 : Hid (Below w.heap.size w w1) := hb1
  have hCl := cur_lt hcu
  clear HC hcu hco hb1
  go_wp2_with fail
  refine (onceN C w.heap.size a len cap 3 (by decide) (by decide) _ HD1.out.1 hC HD1.out.2.1).mono ?_
  rintro e w2 ⟨b, rfl, hD⟩
  have HD2 : Hid (Drawn w1 w2 C w.heap.size a len cap) := hD
  have hsz := hD.2.2.size
  clear hD HD1
  cases b
  · go_wp2_with fail
    refine (below28 C w.heap.size a len cap 16 (by decide) (by decide) _ HD2.out.1 hC HD2.out.2.1).mono ?_
    rintro e w3 ⟨x, rfl, x0, x1, hD⟩
    have HB3 : Hid (Below w.heap.size w w3) := drawn_below HB1.out hC (drawn_trans HD2.out hD)
    clear hD HD2
    go_wp2_with fail
    refine (sNamesS x _).mono ?_
    rintro e w4 ⟨rfl, hb4⟩
    have HB4 : Hid (Below w.heap.size w w4) := bel_on (Nat.le_refl _) HB3.out hb4
    clear hb4
    go_wp2
    go_ret
    exact ⟨_, rfl, HB4.out⟩
  · have HP := pick_cells w2
    have HD3 : Hid (Drawn w1 (w2.alloc (.cells (pickL.map Value.string).toArray 9)) C w.heap.size a len cap) := drawn_alloc HD2.out (by omega) _
    clear HD2
    go_wp2_with fail
    refine (pickS C w.heap.size a len cap pickL 7 rfl _ _ (by decide) (by decide) _ HD3.out.1 hC HD3.out.2.1 (by omega) (by simp) HP).mono ?_
    rintro e w3 ⟨x, rfl, hD⟩
    have HB3 : Hid (Below w.heap.size w w3) := drawn_below HB1.out hC (drawn_trans HD3.out hD)
    clear hD HD3 HP
    go_wp2
    go_ret
    exact ⟨_, rfl, HB3.out⟩
end Go.Proofs.YthjfbookeldpaaaDoor
