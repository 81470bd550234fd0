/-
  The laws' own helpers over guards: sizes, copies, comparing, marking, asking; guards that came in.
-/
import Derived.Test.YtgpdkodnggpkeaaCpu2
namespace Go.Proofs.Ytgpdkodnggpkeaa
open Go.ChangeShapes Go.WideShapes Go.ChangeAt Go.RowKit Go.PlainAid
set_option linter.unusedVariables false

/-- a guard, as a value -/
def grdV (a : Option Addr) (n c : Nat) (al : Int) : Value := .agg #[.slice a n c, .int .i64 al]
def grdC (a : Option Addr) (n c : Nat) (al : Int) : Obj := .cells #[.slice a n c, .int .i64 al] 26
theorem szGL (a : Option Addr) (al : Int) (n cap : Nat) (L : Int) (hn : n ≤ 9223372036854775807) (h0 : 0 ≤ L) (h1 : L ≤ 1048576) (w : World) : Calls Try.prog 21 #[.agg #[.slice a n cap, .int .i64 al], .int .i64 L] w fun e w' => e = .returned (.int .i64 (leftN L n)) ∧ Below w.heap.size w w' := by
  by_cases h : (n : Int) ≤ L
  · have HX : Hid (leftN L n = L - n) := leftN_yes h
    go_enter Try.func21, Try.ntmps21
    go_wp2_with fail
    refine (szIL a n cap L hn h0 h1 _).mono ?_
    rintro e w1 ⟨rfl, rfl⟩
    rw [HX.out]
    go_wp2
    go_ret
    exact ⟨by rw [HX.out]; rfl, (Below.refl _ _).alloc (Nat.le_refl _) _⟩
  · have HX : Hid (leftN L n = -1) := leftN_no h
    go_enter Try.func21, Try.ntmps21
    go_wp2_with fail
    refine (szIL a n cap L hn h0 h1 _).mono ?_
    rintro e w1 ⟨rfl, rfl⟩
    rw [HX.out]
    go_wp2
    go_ret
    exact ⟨by rw [HX.out]; rfl, (Below.refl _ _).alloc (Nat.le_refl _) _⟩
set_option maxRecDepth 100000 in
set_option maxHeartbeats 400000 in
theorem toG (a : Option Addr) (al : Int) (l : List Int) (n cap : Nat) (hl : l.length = n) (hn : n ≤ 1048576) (w : World) (hr : Rd w a l) :
    Calls Try.prog 23 #[.agg #[.slice a n cap, .int .i64 al]] w fun e w' => ∃ g, e = .returned (.agg #[.slice (some ⟨g, 0, none⟩) n n, .int .i64 al]) ∧ w.heap.size ≤ g ∧ RowAt w' g l ∧ Below w.heap.size w w' := by
  obtain ⟨hX, hY, hZ, hW, hS⟩ := box3 w (.slice a n cap) (.int .i64 al) (.slice none 0 0) (.int .i64 0) (.slice none 0 0) (.int .i64 0) 36 26 26
  have HX : Hid (_ = _) := hX
  have HY : Hid (_ = _) := hY
  have HZ : Hid (_ = _) := hZ
  have HW : Hid (Below _ _ _) := hW
  have HS : Hid (_ = _) := hS
  have HR : Hid (Rd w a l) := hr
  have HL : Hid (l.length = n) := hl
  clear hX hY hZ hW hS hr hl
  go_enter Try.func23, Try.ntmps23
  go_wp2_with fail
  refine (toI a l n cap HL.out hn _ (HR.out.keep HW.out (Nat.le_refl _))).mono ?_
  rintro e w1 ⟨rfl, hrow, hb1⟩
  rw [HS.out] at hrow hb1 ⊢
  have kx := row2_cells (row_after HX.out hb1 (by omega))
  have ky := row2_cells (row_after HY.out hb1 (by omega))
  have kz := row2_cells (row_after HZ.out hb1 (by omega))
  have HROW : Hid (RowAt w1 (w.heap.size + 3) l) := hrow
  have HW1 : Hid (Below w.heap.size w w1) := HW.out.trans (hb1.mono (by omega))
  clear hrow hb1 HX HY HZ HW HS HR
  go_wp2
  refine bodyPost_ret (v := .agg #[.slice (some ⟨w.heap.size + 3, 0, none⟩) n n, .int .i64 al]) (by simp [results, Try.results23, go_sem, ky]) rfl ⟨w.heap.size + 3, rfl, by omega, ?_, ?_⟩
  · unfold RowAt
    rw [Below.heap_setCell _ _ _ _ (by simp), Below.heap_setCell _ _ _ _ (by simp), Below.heap_setCell _ _ _ _ (by simp), Below.heap_setCell _ _ _ _ (by simp)]
    exact HROW.out
  · exact (((HW1.out.setCell (by simp; omega) _).setCell (by simp; omega) _).setCell (by simp) _).setCell (by simp) _
theorem eqG (a b : Option Addr) (al : Int) (l : List Int) (n ca cb : Nat) (hl : l.length = n) (hn : n ≤ 1048576) (w : World) (ha : Rd w a l) (hb : Rd w b l) :
    Calls Try.prog 24 #[.agg #[.slice a n ca, .int .i64 al], .agg #[.slice b n cb, .int .i64 al]] w fun e w' => e = .returned (.bool true) ∧ Below w.heap.size w w' := by
  obtain ⟨W, hW⟩ : ∃ W, (w.alloc (.cells #[.slice a n ca, .int .i64 al] 26)).alloc (.cells #[.slice b n cb, .int .i64 al] 26) = W := ⟨_, rfl⟩
  have HB : Hid (Below w.heap.size w ((w.alloc (.cells #[.slice a n ca, .int .i64 al] 26)).alloc (.cells #[.slice b n cb, .int .i64 al] 26))) := ((Below.refl _ _).alloc (Nat.le_refl _) _).alloc (by simp) _
  have HX : Hid (((w.alloc (.cells #[.slice a n ca, .int .i64 al] 26)).alloc (.cells #[.slice b n cb, .int .i64 al] 26)).heap[w.heap.size]? = some (.cells #[.slice a n ca, .int .i64 al] 26)) := (Below.heap_alloc _ _ _ (by simp)).trans (heap_new w _)
  have HY : Hid (((w.alloc (.cells #[.slice a n ca, .int .i64 al] 26)).alloc (.cells #[.slice b n cb, .int .i64 al] 26)).heap[w.heap.size + 1]? = some (.cells #[.slice b n cb, .int .i64 al] 26)) := by
    show _ = _
    have := heap_new (w.alloc (.cells #[.slice a n ca, .int .i64 al] 26)) (.cells #[.slice b n cb, .int .i64 al] 26)
    simpa using this
  have HRa : Hid (Rd _ _ _) := ha.keep HB.out (Nat.le_refl _)
  have HRb : Hid (Rd _ _ _) := hb.keep HB.out (Nat.le_refl _)
  have HL : Hid (l.length = n) := hl
  clear ha hb hl hW
  go_enter Try.func24, Try.ntmps24
  go_wp2_with fail
  refine (eqInts a b l n ca cb HL.out hn _ HRa.out HRb.out).mono ?_
  rintro e w1 ⟨rfl, hb1⟩
  have HW : Hid (Below w.heap.size w w1) := HB.out.trans (hb1.mono HB.out.size)
  have kx := row2_cells (row_on HX.out hb1)
  have ky := row2_cells (row_on HY.out hb1)
  clear hb1
  go_wp2
  go_ret
  exact ⟨rfl, HW.out⟩
theorem markG (B g : Nat) (al : Int) (l : List Int) (n c k : Nat) (K : Int) (hK : K = k) (hn : n ≤ 1048576) (hk : k ≤ 3000000) (w : World) (h : OwnN w B g n c l) :
    Calls Try.prog 26 #[.agg #[.slice (some ⟨g, 0, none⟩) n c, .int .i64 al], .int .i64 K] w fun e w' => e = .returned (.int .i64 (K + n)) ∧ OwnN w' B g n c (marks k n) ∧ w.grownBy w' (some g) := by
  have HROW : Hid (OwnN (w.alloc (.cells #[.slice (some ⟨g, 0, none⟩) n c, .int .i64 al] 26)) B g n c l) := h.alloc _
  have HG : Hid (w.grownBy (w.alloc (.cells #[.slice (some ⟨g, 0, none⟩) n c, .int .i64 al] 26)) (some g)) := alloc_grown _ _ _
  have HK : Hid (K = k) := hK
  clear h hK
  go_enter Try.func26, Try.ntmps26
  go_wp2_with fail
  refine (markO B g l n c k K HK.out hn hk _ HROW.out).mono ?_
  rintro e w1 ⟨rfl, hr, hg⟩
  have HR : Hid (OwnN w1 B g n c (marks k n)) := hr
  have HG1 : Hid (w.grownBy w1 (some g)) := grown_trans' HG.out hg
  clear hr hg
  go_wp2
  go_ret
  exact ⟨rfl, HR.out, HG1.out⟩
theorem heldG (a : Option Addr) (al : Int) (n c k : Nat) (K : Int) (hK : K = k) (hn : n ≤ 1048576) (hk : k ≤ 3000000) (w : World) (h : Rd w a (marks k n)) :
    Calls Try.prog 27 #[.agg #[.slice a n c, .int .i64 al], .int .i64 K] w fun e w' => e = .returned (.int .i64 (K + n)) ∧ Below w.heap.size w w' := by
  subst hK
  have HROW : Hid (Rd (w.alloc (.cells #[.slice a n c, .int .i64 al] 26)) a (marks k n)) := h.keep ((Below.refl _ _).alloc (Nat.le_refl _) _) (Nat.le_refl _)
  clear h
  go_enter Try.func27, Try.ntmps27
  go_wp2_with fail
  refine (heldO a n c k k rfl hn hk _ HROW.out).mono ?_
  rintro e w1 ⟨rfl, rfl⟩
  go_wp2
  go_ret
  exact ⟨rfl, (Below.refl _ _).alloc (Nat.le_refl _) _⟩
theorem cellsGuard : Try.prog.cellsOf 36 = 2 := by kernel_rfl
set_option maxRecDepth 100000 in
theorem open_guard {H : Type} {enc : TypeId × Value → H} {W : World} {base : Nat} {held : Bool} {v : Value} {d : DataW H} {ps : List MemPlace} {bs : Nat}
    (hv : Value.okWide Try.prog W .any base 36 v) (h : DataW.Trod enc Try.prog W bs (fun _ => true) held 36 v d ps) :
    ∃ al a len cap zs, v = .agg #[.slice a len cap, .int .i64 al] ∧ (Lit.int .i64 al).wf = true ∧ IsRow .i64 W a len cap zs := by
  obtain ⟨cs, rfl, hsz⟩ := okWide_struct Try.underlying36 hv
  rw [cellsGuard] at hsz
  obtain ⟨l⟩ := cs
  match l, hsz with
  | [c0, c1], _ =>
  obtain ⟨fuel, hf⟩ := h
  obtain ⟨y0, y1, m, hx, _, hy0, hy1⟩ := trod_struct2 Try.underlying36 hf
  obtain ⟨al, e0, rfl, wa⟩ := DataW.trod_int Try.underlying3 hy1
  simp [Value.cells, cells3] at e0
  subst e0
  simp [Value.cells, cellsInts] at hy0
  rcases open_ints Try.underlying24 Try.underlying3 (by kernel_rfl) hy0 with ⟨hcs, _⟩ | ⟨x, l, c, zs, hcs, _, hl, hm, hz, _, hcell, hwz⟩
  · simp at hcs
    subst hcs
    exact ⟨al, none, 0, 0, [], rfl, wa, .inl ⟨rfl, rfl, rfl, rfl⟩⟩
  · simp at hcs
    subst hcs
    exact ⟨al, _, _, _, zs, rfl, wa, .inr ⟨_, rfl, hl, hm, by simpa using hz, hcell, hwz⟩⟩
end Go.Proofs.Ytgpdkodnggpkeaa
