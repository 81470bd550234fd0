/-
  The laws' own helpers over machines: sizes, copies, comparing, marking, asking; machines that came in.
-/
import Derived.Test.YtgpdkodnggpkeaaCpu
namespace Go.Proofs.Ytgpdkodnggpkeaa
open Go.ChangeShapes Go.WideShapes Go.ChangeAt Go.RowKit Go.PlainAid
set_option linter.unusedVariables false

/-- what is left of a bound -/
def leftN (L : Int) (n : Nat) : Int := if (n : Int) ≤ L then L - n else -1

theorem szIL (a : Option Addr) (n cap : Nat) (L : Int) (hn : n ≤ 9223372036854775807) (h0 : 0 ≤ L) (h1 : L ≤ 1048576) (w : World) : Calls Try.prog 43 #[.slice a n cap, .int .i64 L] w fun e w' => e = .returned (.int .i64 (leftN L n)) ∧ w' = w := by
  by_cases h : (n : Int) ≤ L
  · rw [show leftN L n = L - n from if_pos h]
    go_enter Try.func43, Try.ntmps43
    go_wp2
    go_ret
    exact ⟨rfl, rfl⟩
  · rw [show leftN L n = -1 from if_neg h]
    go_enter Try.func43, Try.ntmps43
    go_wp2
    go_ret
    exact ⟨rfl, rfl⟩
theorem leftN_yes {L : Int} {n : Nat} (h : (n : Int) ≤ L) : leftN L n = L - n := if_pos h
theorem leftN_no {L : Int} {n : Nat} (h : ¬ (n : Int) ≤ L) : leftN L n = -1 := if_neg h
/-- two boxes of a machine and one of another, laid one behind the other -/
theorem box3 (w : World) (x y x' y' x'' y'' : Value) (t r q : TypeId) :
    (((w.alloc (.cells #[x, y] t)).alloc (.cells #[x', y'] r)).alloc (.cells #[x'', y''] q)).heap[w.heap.size]? = some (.cells #[x, y] t) ∧ (((w.alloc (.cells #[x, y] t)).alloc (.cells #[x', y'] r)).alloc (.cells #[x'', y''] q)).heap[w.heap.size + 1]? = some (.cells #[x', y'] r) ∧ (((w.alloc (.cells #[x, y] t)).alloc (.cells #[x', y'] r)).alloc (.cells #[x'', y''] q)).heap[w.heap.size + 2]? = some (.cells #[x'', y''] q) ∧ Below w.heap.size w (((w.alloc (.cells #[x, y] t)).alloc (.cells #[x', y'] r)).alloc (.cells #[x'', y''] q)) ∧ (((w.alloc (.cells #[x, y] t)).alloc (.cells #[x', y'] r)).alloc (.cells #[x'', y''] q)).heap.size = w.heap.size + 3 := by
  have h0 := heap_new w (.cells #[x, y] t)
  have h1 := heap_new (w.alloc (.cells #[x, y] t)) (.cells #[x', y'] r)
  have h2 := heap_new ((w.alloc (.cells #[x, y] t)).alloc (.cells #[x', y'] r)) (.cells #[x'', y''] q)
  refine ⟨(Below.heap_alloc _ _ _ (by simp; omega)).trans ((Below.heap_alloc _ _ _ (by simp)).trans h0), (Below.heap_alloc _ _ _ (by simp)).trans (by simpa using h1), by simpa using h2, (((Below.refl _ _).alloc (Nat.le_refl _) _).alloc (by simp) _).alloc (by simp; omega) _, by simp⟩

/-- a list of numbers that a call owns, with room behind it or none -/
def OwnN (w : World) (B g n c : Nat) (l : List Int) : Prop := w.ownsRow B 3 1 (.slice (some ⟨g, 0, none⟩) n c) n (intsV l)
theorem OwnN.len {w : World} {B g n c : Nat} {l : List Int} (h : OwnN w B g n c l) : l.length = n := by
  have := h.1; rw [intsV_len] at this; omega
theorem OwnN.ge {w : World} {B g n c : Nat} {l : List Int} (h : OwnN w B g n c l) : B ≤ g := own_ge h g rfl
theorem OwnN.lt {w : World} {B g n c : Nat} {l : List Int} (h : OwnN w B g n c l) : g < w.heap.size := Go.Proofs.Ytgpdkodnggpkeaa.own_lt h g rfl
theorem OwnN.on {w w' : World} {B g n c : Nat} {l : List Int} (h : OwnN w B g n c l) (hb : Below w.heap.size w w') : OwnN w' B g n c l := own_on h hb
theorem OwnN.mono {w : World} {B C g n c : Nat} {l : List Int} (h : OwnN w B g n c l) (hC : C ≤ B) : OwnN w C g n c l := own_mono h hC
theorem OwnN.rd {w : World} {B g n c : Nat} {l : List Int} (h : OwnN w B g n c l) : Rd w (some ⟨g, 0, none⟩) l := own_rd' h
theorem OwnN.grown {w w' : World} {B g n c C : Nat} {l : List Int} (h : OwnN w B g n c l) (hg : w.grownBy w' (some C)) (hne : C ≠ g) : OwnN w' B g n c l :=
  own_grown h hg (fun k hk => by simp [Value.ownBlock] at hk; omega)
theorem RowAt.ownN {w : World} {g B n : Nat} {l : List Int} (h : RowAt w g l) (hB : B ≤ g) (hl : l.length = n) (hn : n ≤ 1048576) : OwnN w B g n n l := by
  subst hl; exact h.owns hB (by unfold maxLen; omega)

set_option maxRecDepth 100000 in
set_option maxHeartbeats 400000 in
theorem markO (B g : Nat) (l : List Int) (n c k : Nat) (K : Int) (hK : K = k) (hn : n ≤ 1048576) (hk : k ≤ 3000000) (w : World) (h : OwnN w B g n c l) :
    Calls Try.prog 49 #[.slice (some ⟨g, 0, none⟩) n c, .int .i64 K] w fun e w' => e = .returned (.int .i64 (K + n)) ∧ OwnN w' B g n c (marks k n) ∧ w.grownBy w' (some g) := by
  subst hK
  have HL : Hid (l.length = n) := h.len
  have HROW : Hid (OwnN w B g n c (mixed l k 0)) := by rw [mixed_zero]; exact h
  clear h
  go_enter Try.func49, Try.ntmps49
  go_wp2
  go_loopw [1, 5] (fun kv i wr => ∃ j : Nat, j ≤ n ∧ kv = .int .i64 (k + j : Nat) ∧ i = .int .i64 j ∧ Hid (OwnN wr B g n c (mixed l k j)) ∧ Hid (w.grownBy wr (some g))) (fun _ i _ => n - (intOf i).toNat)
  case atStart => exact ⟨0, Nat.zero_le _, rfl, rfl, HROW, World.grownBy.refl _ _⟩
  case round =>
    clear HROW
    obtain ⟨j, hj, rfl, rfl, HR, HG⟩ := hrel
    by_cases hlt : j < n
    · have hm : j < (mixed l k j).length := by rw [mixed_len (by have := HL.out; omega), HL.out]; exact hlt
      obtain ⟨hcell, hfr⟩ := own_at HR.out hm
      have HR' : Hid (OwnN (wr.setCell ⟨g, j, none⟩ (.int .i64 (k + j : Nat))) B g n c (mixed l k (j + 1))) := by
        have := own_put (x := ((k + j : Nat) : Int)) HR.out hm
        rw [mixed_set (by have := HL.out; omega)] at this
        exact this
      have HG' : Hid (w.grownBy (wr.setCell ⟨g, j, none⟩ (.int .i64 (k + j : Nat))) (some g)) := grown_trans' HG.out (grown_put _ _ _ _)
      generalize (mixed l k j)[j] = old at hcell
      clear hm
      go_wp2
      go_roundw
      case rel => exact ⟨j + 1, by omega, by go_num, by go_num, HR', HG'⟩
      case measure => simp [intOf]; omega
    · obtain rfl : j = n := by omega
      have HR' : Hid (OwnN wr B g j c (marks k j)) := by have := HR.out; rw [mixed_all l k j HL.out] at this; exact this
      go_wp2
      go_ret
      exact ⟨by go_num, HR'.out, HG.out⟩

theorem alloc_grown (w : World) (o : Obj) (r : Option Nat) : w.grownBy (w.alloc o) r := World.grownBy_alloc _ _ _
theorem below_grown {w w' : World} {r : Option Nat} (h : Below w.heap.size w w') : w.grownBy w' r := ⟨h.os, h.tape, h.output, h.size, fun j hj _ => h.block j hj⟩
theorem OwnN.alloc {w : World} {B g n c : Nat} {l : List Int} (h : OwnN w B g n c l) (o : Obj) : OwnN (w.alloc o) B g n c l := h.on ((Below.refl _ _).alloc (Nat.le_refl _) _)

set_option maxRecDepth 100000 in
set_option maxHeartbeats 400000 in
theorem heldO (a : Option Addr) (n c k : Nat) (K : Int) (hK : K = k) (hn : n ≤ 1048576) (hk : k ≤ 3000000) (w : World) (h : Rd w a (marks k n)) :
    Calls Try.prog 50 #[.slice a n c, .int .i64 K] w fun e w' => e = .returned (.int .i64 (K + n)) ∧ w' = w := by
  subst hK
  have HROW : Hid (Rd w a (marks k n)) := h
  clear h
  go_enter Try.func50, Try.ntmps50
  go_wp2
  go_loopw [1, 5] (fun kv i wr => ∃ j : Nat, j ≤ n ∧ kv = .int .i64 (k + j : Nat) ∧ i = .int .i64 j ∧ wr = w) (fun _ i _ => n - (intOf i).toNat)
  case atStart => exact ⟨0, Nat.zero_le _, rfl, rfl, rfl⟩
  case round =>
    obtain ⟨j, hj, rfl, rfl, rfl⟩ := hrel
    by_cases hlt : j < n
    · have hm : j < (marks k n).length := by rw [marks_len]; exact hlt
      obtain ⟨g, off, ha, hc⟩ := HROW.out (by omega)
      subst ha
      have hcell := hc j hm
      rw [marks_at] at hcell
      clear hm hc
      go_wp2
      go_roundw
      case rel => exact ⟨j + 1, by omega, by go_num, by go_num, trivial⟩
      case measure => simp [intOf]; omega
    · obtain rfl : j = n := by omega
      go_wp2
      go_ret
      exact ⟨by go_num, rfl⟩

theorem cell_on {W W' : World} {p : Addr} {v : Value} (h : W.cell? p = some v) (hb : Below W.heap.size W W') : W'.cell? p = some v := (hb.cell (World.block_lt_of_cell? W p h)).trans h
/-- four cells that a drawn region reads, and that all is kept since it began -/
theorem q4_keep {W0 W' : World} {p1 p2 p3 p4 : Addr} {v1 v2 v3 v4 : Value} (h : W0.cell? p1 = some v1 ∧ W0.cell? p2 = some v2 ∧ W0.cell? p3 = some v3 ∧ W0.cell? p4 = some v4) (hB : Below W0.heap.size W0 W') :
    W'.cell? p1 = some v1 ∧ W'.cell? p2 = some v2 ∧ W'.cell? p3 = some v3 ∧ W'.cell? p4 = some v4 ∧ Below W0.heap.size W0 W' :=
  ⟨cell_on h.1 hB, cell_on h.2.1 hB, cell_on h.2.2.1 hB, cell_on h.2.2.2 hB, hB⟩
theorem q4_on {W0 W W' : World} {p1 p2 p3 p4 : Addr} {v1 v2 v3 v4 : Value} (hb : Below W.heap.size W W') (h : W.cell? p1 = some v1 ∧ W.cell? p2 = some v2 ∧ W.cell? p3 = some v3 ∧ W.cell? p4 = some v4 ∧ Below W0.heap.size W0 W) : Below W0.heap.size W0 W' := bel_on (Nat.le_refl _) h.2.2.2.2 hb
theorem q4_bel {W0 W : World} {p1 p2 p3 p4 : Addr} {v1 v2 v3 v4 : Value} (h : W.cell? p1 = some v1 ∧ W.cell? p2 = some v2 ∧ W.cell? p3 = some v3 ∧ W.cell? p4 = some v4 ∧ Below W0.heap.size W0 W) : Below W0.heap.size W0 W := h.2.2.2.2
theorem Rd.on {w w' : World} {a : Option Addr} {l : List Int} (h : Rd w a l) (hb : Below w.heap.size w w') : Rd w' a l := h.keep hb (Nat.le_refl _)
end Go.Proofs.Ytgpdkodnggpkeaa
