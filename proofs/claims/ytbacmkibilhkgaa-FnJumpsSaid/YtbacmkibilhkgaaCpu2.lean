/-
  The laws' own helpers over machines: sizes, copies, comparing, marking, asking; machines that came in.
-/
import Derived.Test.YtbacmkibilhkgaaCpu
namespace Go.Proofs.Ytbacmkibilhkgaa
open Go.ChangeShapes Go.WideShapes Go.ChangeAt Go.RowKit Go.PlainAid
set_option linter.unusedVariables false

/-- what is left of a bound -/
def leftN (L : Int) (n : Nat) : Int := if (n : Int) ≤ L then L - n else -1

theorem szIL (a : Option Addr) (n cap : Nat) (L : Int) (hn : n ≤ 9223372036854775807) (h0 : 0 ≤ L) (h1 : L ≤ 1048576) (w : World) : Calls Try.prog 39 #[.slice a n cap, .int .i64 L] w fun e w' => e = .returned (.int .i64 (leftN L n)) ∧ w' = w := by
  by_cases h : (n : Int) ≤ L
  · rw [show leftN L n = L - n from if_pos h]
    go_enter Try.func39, Try.ntmps39
    go_wp2
    go_ret
    exact ⟨rfl, rfl⟩
  · rw [show leftN L n = -1 from if_neg h]
    go_enter Try.func39, Try.ntmps39
    go_wp2
    go_ret
    exact ⟨rfl, rfl⟩
theorem leftN_yes {L : Int} {n : Nat} (h : (n : Int) ≤ L) : leftN L n = L - n := if_pos h
theorem leftN_no {L : Int} {n : Nat} (h : ¬ (n : Int) ≤ L) : leftN L n = -1 := if_neg h
theorem szCL (a : Option Addr) (pc : Int) (n cap : Nat) (L : Int) (hn : n ≤ 9223372036854775807) (h0 : 0 ≤ L) (h1 : L ≤ 1048576) (w : World) : Calls Try.prog 11 #[.agg #[.int .i64 pc, .slice a n cap], .int .i64 L] w fun e w' => e = .returned (.int .i64 (leftN L n)) ∧ Below w.heap.size w w' := by
  by_cases h : (n : Int) ≤ L
  · have HX : Hid (leftN L n = L - n) := leftN_yes h
    go_enter Try.func11, Try.ntmps11
    go_wp2_with fail
    refine (szIL a n cap L hn h0 h1 _).mono ?_
    rintro e w1 ⟨rfl, rfl⟩
    rw [HX.out]
    go_wp2
    go_ret
    exact ⟨by rw [HX.out]; rfl, (Below.refl _ _).alloc (Nat.le_refl _) _⟩
  · have HX : Hid (leftN L n = -1) := leftN_no h
    go_enter Try.func11, Try.ntmps11
    go_wp2_with fail
    refine (szIL a n cap L hn h0 h1 _).mono ?_
    rintro e w1 ⟨rfl, rfl⟩
    rw [HX.out]
    go_wp2
    go_ret
    exact ⟨by rw [HX.out]; rfl, (Below.refl _ _).alloc (Nat.le_refl _) _⟩
theorem szAL (a : Option Addr) (n cap : Nat) (L : Int) (hn : n ≤ 9223372036854775807) (h0 : 0 ≤ L) (h1 : L ≤ 1048576) (w : World) : Calls Try.prog 17 #[.agg #[.slice a n cap], .int .i64 L] w fun e w' => e = .returned (.int .i64 (leftN L n)) ∧ Below w.heap.size w w' := by
  by_cases h : (n : Int) ≤ L
  · have HX : Hid (leftN L n = L - n) := leftN_yes h
    go_enter Try.func17, Try.ntmps17
    go_wp2_with fail
    refine (szIL a n cap L hn h0 h1 _).mono ?_
    rintro e w1 ⟨rfl, rfl⟩
    rw [HX.out]
    go_wp2
    go_ret
    exact ⟨by rw [HX.out]; rfl, (Below.refl _ _).alloc (Nat.le_refl _) _⟩
  · have HX : Hid (leftN L n = -1) := leftN_no h
    go_enter Try.func17, Try.ntmps17
    go_wp2_with fail
    refine (szIL a n cap L hn h0 h1 _).mono ?_
    rintro e w1 ⟨rfl, rfl⟩
    rw [HX.out]
    go_wp2
    go_ret
    exact ⟨by rw [HX.out]; rfl, (Below.refl _ _).alloc (Nat.le_refl _) _⟩
theorem szInL (a : Option Addr) (n cap : Nat) (L : Int) (hn : n ≤ 9223372036854775807) (h0 : 0 ≤ L) (h1 : L ≤ 1048576) (w : World) : Calls Try.prog 16 #[.slice a n cap, .int .i64 L] w fun e w' => e = .returned (.int .i64 (leftN L n)) ∧ w' = w := by
  by_cases h : (n : Int) ≤ L
  · rw [leftN_yes h]
    go_enter Try.func16, Try.ntmps16
    go_wp2
    go_ret
    exact ⟨rfl, rfl⟩
  · rw [leftN_no h]
    go_enter Try.func16, Try.ntmps16
    go_wp2
    go_ret
    exact ⟨rfl, rfl⟩

/-- two boxes of a machine and one of another, laid one behind the other -/
theorem box3 (w : World) (x y x' y' x'' y'' : Value) (t r q : TypeId) :
    (((w.alloc (.cells #[x, y] t)).alloc (.cells #[x', y'] r)).alloc (.cells #[x'', y''] q)).heap[w.heap.size]? = some (.cells #[x, y] t) ∧ (((w.alloc (.cells #[x, y] t)).alloc (.cells #[x', y'] r)).alloc (.cells #[x'', y''] q)).heap[w.heap.size + 1]? = some (.cells #[x', y'] r) ∧ (((w.alloc (.cells #[x, y] t)).alloc (.cells #[x', y'] r)).alloc (.cells #[x'', y''] q)).heap[w.heap.size + 2]? = some (.cells #[x'', y''] q) ∧ Below w.heap.size w (((w.alloc (.cells #[x, y] t)).alloc (.cells #[x', y'] r)).alloc (.cells #[x'', y''] q)) ∧ (((w.alloc (.cells #[x, y] t)).alloc (.cells #[x', y'] r)).alloc (.cells #[x'', y''] q)).heap.size = w.heap.size + 3 := by
  have h0 := heap_new w (.cells #[x, y] t)
  have h1 := heap_new (w.alloc (.cells #[x, y] t)) (.cells #[x', y'] r)
  have h2 := heap_new ((w.alloc (.cells #[x, y] t)).alloc (.cells #[x', y'] r)) (.cells #[x'', y''] q)
  refine ⟨(Below.heap_alloc _ _ _ (by simp; omega)).trans ((Below.heap_alloc _ _ _ (by simp)).trans h0), (Below.heap_alloc _ _ _ (by simp)).trans (by simpa using h1), by simpa using h2, (((Below.refl _ _).alloc (Nat.le_refl _) _).alloc (by simp) _).alloc (by simp; omega) _, by simp⟩

set_option maxRecDepth 100000 in
set_option maxHeartbeats 400000 in
theorem toC (a : Option Addr) (pc : Int) (l : List Int) (n cap : Nat) (hl : l.length = n) (hn : n ≤ 1048576) (w : World) (hr : Rd w a l) :
    Calls Try.prog 13 #[.agg #[.int .i64 pc, .slice a n cap]] w fun e w' => ∃ g, e = .returned (.agg #[.int .i64 pc, .slice (some ⟨g, 0, none⟩) n n]) ∧ w.heap.size ≤ g ∧ RowAt w' g l ∧ Below w.heap.size w w' := by
  obtain ⟨hX, hY, hZ, hW, hS⟩ := box3 w (.int .i64 pc) (.slice a n cap) (.int .i64 0) (.slice none 0 0) (.int .i64 pc) (.slice none 0 0) 24 27 27
  have HX : Hid (_ = _) := hX
  have HY : Hid (_ = _) := hY
  have HZ : Hid (_ = _) := hZ
  have HW : Hid (Below _ _ _) := hW
  have HS : Hid (_ = _) := hS
  have HR : Hid (Rd w a l) := hr
  have HL : Hid (l.length = n) := hl
  clear hX hY hZ hW hS hr hl
  go_enter Try.func13, Try.ntmps13
  go_wp2_with fail
  refine (toI a l n cap HL.out hn _ (HR.out.keep HW.out (Nat.le_refl _))).mono ?_
  rintro e w1 ⟨rfl, hrow, hb1⟩
  rw [HS.out] at hrow hb1 ⊢
  have ky := row2_cells (row_after HY.out hb1 (by omega))
  have kz := row2_cells (row_after HZ.out hb1 (by omega))
  have HROW : Hid (RowAt w1 (w.heap.size + 3) l) := hrow
  have HW1 : Hid (Below w.heap.size w w1) := HW.out.trans (hb1.mono (by omega))
  clear hrow hb1 HX HY HZ HW HS HR
  go_wp2
  refine bodyPost_ret (v := .agg #[.int .i64 pc, .slice (some ⟨w.heap.size + 3, 0, none⟩) n n]) (by simp [results, Try.results13, go_sem, ky]) rfl ⟨w.heap.size + 3, rfl, by omega, ?_, ?_⟩
  · unfold RowAt
    rw [Below.heap_setCell _ _ _ _ (by simp), Below.heap_setCell _ _ _ _ (by simp), Below.heap_setCell _ _ _ _ (by simp)]
    exact HROW.out
  · exact ((HW1.out.setCell (by simp; omega) _).setCell (by simp) _).setCell (by simp) _

theorem eqC (a b : Option Addr) (pc : Int) (l : List Int) (n ca cb : Nat) (hl : l.length = n) (hn : n ≤ 1048576) (w : World) (ha : Rd w a l) (hb : Rd w b l) :
    Calls Try.prog 15 #[.agg #[.int .i64 pc, .slice a n ca], .agg #[.int .i64 pc, .slice b n cb]] w fun e w' => e = .returned (.bool true) ∧ Below w.heap.size w w' := by
  have HB : Hid (Below w.heap.size w ((w.alloc (.cells #[.int .i64 pc, .slice a n ca] 27)).alloc (.cells #[.int .i64 pc, .slice b n cb] 27))) := ((Below.refl _ _).alloc (Nat.le_refl _) _).alloc (by simp) _
  have HRa : Hid (Rd _ _ _) := ha.keep HB.out (Nat.le_refl _)
  have HRb : Hid (Rd _ _ _) := hb.keep HB.out (Nat.le_refl _)
  have HL : Hid (l.length = n) := hl
  clear ha hb hl
  go_enter Try.func15, Try.ntmps15
  go_wp2_with fail
  refine (eqInts a b l n ca cb HL.out hn _ HRa.out HRb.out).mono ?_
  rintro e w1 ⟨rfl, hb1⟩
  have HW : Hid (Below w.heap.size w w1) := HB.out.trans (hb1.mono HB.out.size)
  clear hb1
  go_wp2
  go_ret
  exact ⟨rfl, HW.out⟩

/-- a list of numbers that a call owns, with room behind it or none -/
def OwnN (w : World) (B g n c : Nat) (l : List Int) : Prop := w.ownsRow B 3 1 (.slice (some ⟨g, 0, none⟩) n c) n (intsV l)
theorem OwnN.len {w : World} {B g n c : Nat} {l : List Int} (h : OwnN w B g n c l) : l.length = n := by
  have := h.1; rw [intsV_len] at this; omega
theorem OwnN.ge {w : World} {B g n c : Nat} {l : List Int} (h : OwnN w B g n c l) : B ≤ g := own_ge h g rfl
theorem OwnN.lt {w : World} {B g n c : Nat} {l : List Int} (h : OwnN w B g n c l) : g < w.heap.size := Go.Proofs.Ytbacmkibilhkgaa.own_lt h g rfl
theorem OwnN.on {w w' : World} {B g n c : Nat} {l : List Int} (h : OwnN w B g n c l) (hb : Below w.heap.size w w') : OwnN w' B g n c l := own_on h hb
theorem OwnN.mono {w : World} {B C g n c : Nat} {l : List Int} (h : OwnN w B g n c l) (hC : C ≤ B) : OwnN w C g n c l := own_mono h hC
theorem OwnN.rd {w : World} {B g n c : Nat} {l : List Int} (h : OwnN w B g n c l) : Rd w (some ⟨g, 0, none⟩) l := own_rd' h
theorem OwnN.grown {w w' : World} {B g n c C : Nat} {l : List Int} (h : OwnN w B g n c l) (hg : w.grownBy w' (some C)) (hne : C ≠ g) : OwnN w' B g n c l :=
  own_grown h hg (fun k hk => by simp [Value.ownBlock] at hk; omega)
theorem RowAt.ownN {w : World} {g B n : Nat} {l : List Int} (h : RowAt w g l) (hB : B ≤ g) (hl : l.length = n) (hn : n ≤ 1048576) : OwnN w B g n n l := by
  subst hl; exact h.owns hB (by unfold maxLen; omega)

set_option maxRecDepth 100000 in
set_option maxHeartbeats 400000 in
theorem markO (B g : Nat) (l : List Int) (n c k : Nat) (K : Int) (hK : K = k) (hn : n ≤ 1048576) (hk : k ≤ 3000000) (w : World) (h : OwnN w B g n c l) :
    Calls Try.prog 59 #[.slice (some ⟨g, 0, none⟩) n c, .int .i64 K] w fun e w' => e = .returned (.int .i64 (K + n)) ∧ OwnN w' B g n c (marks k n) ∧ w.grownBy w' (some g) := by
  subst hK
  have HL : Hid (l.length = n) := h.len
  have HROW : Hid (OwnN w B g n c (mixed l k 0)) := by rw [mixed_zero]; exact h
  clear h
  go_enter Try.func59, Try.ntmps59
  go_wp2
  go_loopw [1, 5] (fun kv i wr => ∃ j : Nat, j ≤ n ∧ kv = .int .i64 (k + j : Nat) ∧ i = .int .i64 j ∧ Hid (OwnN wr B g n c (mixed l k j)) ∧ Hid (w.grownBy wr (some g))) (fun _ i _ => n - (intOf i).toNat)
  case atStart => exact ⟨0, Nat.zero_le _, rfl, rfl, HROW, World.grownBy.refl _ _⟩
  case round =>
    clear HROW
    obtain ⟨j, hj, rfl, rfl, HR, HG⟩ := hrel
    by_cases hlt : j < n
    · have hm : j < (mixed l k j).length := by rw [mixed_len (by have := HL.out; omega), HL.out]; exact hlt
      obtain ⟨hcell, hfr⟩ := own_at HR.out hm
      have HR' : Hid (OwnN (wr.setCell ⟨g, j, none⟩ (.int .i64 (k + j : Nat))) B g n c (mixed l k (j + 1))) := by
        have := own_put (x := ((k + j : Nat) : Int)) HR.out hm
        rw [mixed_set (by have := HL.out; omega)] at this
        exact this
      have HG' : Hid (w.grownBy (wr.setCell ⟨g, j, none⟩ (.int .i64 (k + j : Nat))) (some g)) := grown_trans' HG.out (grown_put _ _ _ _)
      generalize (mixed l k j)[j] = old at hcell
      clear hm
      go_wp2
      go_roundw
      case rel => exact ⟨j + 1, by omega, by go_num, by go_num, HR', HG'⟩
      case measure => simp [intOf]; omega
    · obtain rfl : j = n := by omega
      have HR' : Hid (OwnN wr B g j c (marks k j)) := by have := HR.out; rw [mixed_all l k j HL.out] at this; exact this
      go_wp2
      go_ret
      exact ⟨by go_num, HR'.out, HG.out⟩

theorem alloc_grown (w : World) (o : Obj) (r : Option Nat) : w.grownBy (w.alloc o) r := World.grownBy_alloc _ _ _
theorem below_grown {w w' : World} {r : Option Nat} (h : Below w.heap.size w w') : w.grownBy w' r := ⟨h.os, h.tape, h.output, h.size, fun j hj _ => h.block j hj⟩
theorem OwnN.alloc {w : World} {B g n c : Nat} {l : List Int} (h : OwnN w B g n c l) (o : Obj) : OwnN (w.alloc o) B g n c l := h.on ((Below.refl _ _).alloc (Nat.le_refl _) _)

theorem markC (B g : Nat) (pc : Int) (l : List Int) (n c k : Nat) (K : Int) (hK : K = k) (hn : n ≤ 1048576) (hk : k ≤ 3000000) (w : World) (h : OwnN w B g n c l) :
    Calls Try.prog 26 #[.agg #[.int .i64 pc, .slice (some ⟨g, 0, none⟩) n c], .int .i64 K] w fun e w' => e = .returned (.int .i64 (K + n)) ∧ OwnN w' B g n c (marks k n) ∧ w.grownBy w' (some g) := by
  have HROW : Hid (OwnN (w.alloc (.cells #[.int .i64 pc, .slice (some ⟨g, 0, none⟩) n c] 27)) B g n c l) := h.alloc _
  have HG : Hid (w.grownBy (w.alloc (.cells #[.int .i64 pc, .slice (some ⟨g, 0, none⟩) n c] 27)) (some g)) := alloc_grown _ _ _
  have HK : Hid (K = k) := hK
  clear h hK
  go_enter Try.func26, Try.ntmps26
  go_wp2_with fail
  refine (markO B g l n c k K HK.out hn hk _ HROW.out).mono ?_
  rintro e w1 ⟨rfl, hr, hg⟩
  have HR : Hid (OwnN w1 B g n c (marks k n)) := hr
  have HG1 : Hid (w.grownBy w1 (some g)) := grown_trans' HG.out hg
  clear hr hg
  go_wp2
  go_ret
  exact ⟨rfl, HR.out, HG1.out⟩

theorem markAr (B g : Nat) (l : List Int) (n c k : Nat) (K : Int) (hK : K = k) (hn : n ≤ 1048576) (hk : k ≤ 3000000) (w : World) (h : OwnN w B g n c l) :
    Calls Try.prog 28 #[.agg #[.slice (some ⟨g, 0, none⟩) n c], .int .i64 K] w fun e w' => e = .returned (.int .i64 (K + n)) ∧ OwnN w' B g n c (marks k n) ∧ w.grownBy w' (some g) := by
  have HROW : Hid (OwnN (w.alloc (.cells #[.slice (some ⟨g, 0, none⟩) n c] 38)) B g n c l) := h.alloc _
  have HG : Hid (w.grownBy (w.alloc (.cells #[.slice (some ⟨g, 0, none⟩) n c] 38)) (some g)) := alloc_grown _ _ _
  have HK : Hid (K = k) := hK
  clear h hK
  go_enter Try.func28, Try.ntmps28
  go_wp2_with fail
  refine (markO B g l n c k K HK.out hn hk _ HROW.out).mono ?_
  rintro e w1 ⟨rfl, hr, hg⟩
  have HR : Hid (OwnN w1 B g n c (marks k n)) := hr
  have HG1 : Hid (w.grownBy w1 (some g)) := grown_trans' HG.out hg
  clear hr hg
  go_wp2
  go_ret
  exact ⟨rfl, HR.out, HG1.out⟩

set_option maxRecDepth 100000 in
set_option maxHeartbeats 400000 in
theorem heldO (a : Option Addr) (n c k : Nat) (K : Int) (hK : K = k) (hn : n ≤ 1048576) (hk : k ≤ 3000000) (w : World) (h : Rd w a (marks k n)) :
    Calls Try.prog 60 #[.slice a n c, .int .i64 K] w fun e w' => e = .returned (.int .i64 (K + n)) ∧ w' = w := by
  subst hK
  have HROW : Hid (Rd w a (marks k n)) := h
  clear h
  go_enter Try.func60, Try.ntmps60
  go_wp2
  go_loopw [1, 5] (fun kv i wr => ∃ j : Nat, j ≤ n ∧ kv = .int .i64 (k + j : Nat) ∧ i = .int .i64 j ∧ wr = w) (fun _ i _ => n - (intOf i).toNat)
  case atStart => exact ⟨0, Nat.zero_le _, rfl, rfl, rfl⟩
  case round =>
    obtain ⟨j, hj, rfl, rfl, rfl⟩ := hrel
    by_cases hlt : j < n
    · have hm : j < (marks k n).length := by rw [marks_len]; exact hlt
      obtain ⟨g, off, ha, hc⟩ := HROW.out (by omega)
      subst ha
      have hcell := hc j hm
      rw [marks_at] at hcell
      clear hm hc
      go_wp2
      go_roundw
      case rel => exact ⟨j + 1, by omega, by go_num, by go_num, trivial⟩
      case measure => simp [intOf]; omega
    · obtain rfl : j = n := by omega
      go_wp2
      go_ret
      exact ⟨by go_num, rfl⟩

theorem heldC (a : Option Addr) (pc : Int) (n c k : Nat) (K : Int) (hK : K = k) (hn : n ≤ 1048576) (hk : k ≤ 3000000) (w : World) (h : Rd w a (marks k n)) :
    Calls Try.prog 29 #[.agg #[.int .i64 pc, .slice a n c], .int .i64 K] w fun e w' => e = .returned (.int .i64 (K + n)) ∧ Below w.heap.size w w' := by
  subst hK
  have HROW : Hid (Rd (w.alloc (.cells #[.int .i64 pc, .slice a n c] 27)) a (marks k n)) := h.keep ((Below.refl _ _).alloc (Nat.le_refl _) _) (Nat.le_refl _)
  clear h
  go_enter Try.func29, Try.ntmps29
  go_wp2_with fail
  refine (heldO a n c k k rfl hn hk _ HROW.out).mono ?_
  rintro e w1 ⟨rfl, rfl⟩
  go_wp2
  go_ret
  exact ⟨rfl, (Below.refl _ _).alloc (Nat.le_refl _) _⟩
theorem heldAr (a : Option Addr) (n c k : Nat) (K : Int) (hK : K = k) (hn : n ≤ 1048576) (hk : k ≤ 3000000) (w : World) (h : Rd w a (marks k n)) :
    Calls Try.prog 30 #[.agg #[.slice a n c], .int .i64 K] w fun e w' => e = .returned (.int .i64 (K + n)) ∧ Below w.heap.size w w' := by
  subst hK
  have HROW : Hid (Rd (w.alloc (.cells #[.slice a n c] 38)) a (marks k n)) := h.keep ((Below.refl _ _).alloc (Nat.le_refl _) _) (Nat.le_refl _)
  clear h
  go_enter Try.func30, Try.ntmps30
  go_wp2_with fail
  refine (heldO a n c k k rfl hn hk _ HROW.out).mono ?_
  rintro e w1 ⟨rfl, rfl⟩
  go_wp2
  go_ret
  exact ⟨rfl, (Below.refl _ _).alloc (Nat.le_refl _) _⟩

theorem cellsCpu : Try.prog.cellsOf 24 = 2 := by kernel_rfl
set_option maxRecDepth 100000 in
theorem open_cpu {H : Type} {enc : TypeId × Value → H} {W : World} {base : Nat} {held : Bool} {v : Value} {d : DataW H} {ps : List MemPlace} {bs : Nat}
    (hv : Value.okWide Try.prog W .any base 24 v) (h : DataW.Trod enc Try.prog W bs (fun _ => true) held 24 v d ps) :
    ∃ pc a len cap zs, v = .agg #[.int .i64 pc, .slice a len cap] ∧ (Lit.int .i64 pc).wf = true ∧ IsRow .i64 W a len cap zs := by
  obtain ⟨cs, rfl, hsz⟩ := okWide_struct Try.underlying24 hv
  rw [cellsCpu] at hsz
  obtain ⟨l⟩ := cs
  match l, hsz with
  | [c0, c1], _ =>
  obtain ⟨fuel, hf⟩ := h
  obtain ⟨y0, y1, m, hx, _, hy0, hy1⟩ := trod_struct2 Try.underlying24 hf
  obtain ⟨a, e0, rfl, wa⟩ := DataW.trod_int Try.underlying3 hy0
  simp [Value.cells, cells3] at e0
  subst e0
  simp [Value.cells, cellsInts] at hy1
  rcases open_ints Try.underlying22 Try.underlying3 (by kernel_rfl) hy1 with ⟨hcs, _⟩ | ⟨x, l, c, zs, hcs, _, hl, hm, hz, _, hcell, hwz⟩
  · simp at hcs
    subst hcs
    exact ⟨a, none, 0, 0, [], rfl, wa, .inl ⟨rfl, rfl, rfl, rfl⟩⟩
  · simp at hcs
    subst hcs
    exact ⟨a, _, _, _, zs, rfl, wa, .inr ⟨_, rfl, hl, hm, by simpa using hz, hcell, hwz⟩⟩

theorem cell_on {W W' : World} {p : Addr} {v : Value} (h : W.cell? p = some v) (hb : Below W.heap.size W W') : W'.cell? p = some v := (hb.cell (World.block_lt_of_cell? W p h)).trans h
/-- four cells that a drawn region reads, and that all is kept since it began -/
theorem q4_keep {W0 W' : World} {p1 p2 p3 p4 : Addr} {v1 v2 v3 v4 : Value} (h : W0.cell? p1 = some v1 ∧ W0.cell? p2 = some v2 ∧ W0.cell? p3 = some v3 ∧ W0.cell? p4 = some v4) (hB : Below W0.heap.size W0 W') :
    W'.cell? p1 = some v1 ∧ W'.cell? p2 = some v2 ∧ W'.cell? p3 = some v3 ∧ W'.cell? p4 = some v4 ∧ Below W0.heap.size W0 W' :=
  ⟨cell_on h.1 hB, cell_on h.2.1 hB, cell_on h.2.2.1 hB, cell_on h.2.2.2 hB, hB⟩
theorem q4_on {W0 W W' : World} {p1 p2 p3 p4 : Addr} {v1 v2 v3 v4 : Value} (hb : Below W.heap.size W W') (h : W.cell? p1 = some v1 ∧ W.cell? p2 = some v2 ∧ W.cell? p3 = some v3 ∧ W.cell? p4 = some v4 ∧ Below W0.heap.size W0 W) : Below W0.heap.size W0 W' := bel_on (Nat.le_refl _) h.2.2.2.2 hb
theorem q4_bel {W0 W : World} {p1 p2 p3 p4 : Addr} {v1 v2 v3 v4 : Value} (h : W.cell? p1 = some v1 ∧ W.cell? p2 = some v2 ∧ W.cell? p3 = some v3 ∧ W.cell? p4 = some v4 ∧ Below W0.heap.size W0 W) : Below W0.heap.size W0 W := h.2.2.2.2
theorem Rd.on {w w' : World} {a : Option Addr} {l : List Int} (h : Rd w a l) (hb : Below w.heap.size w w') : Rd w' a l := h.keep hb (Nat.le_refl _)
end Go.Proofs.Ytbacmkibilhkgaa
