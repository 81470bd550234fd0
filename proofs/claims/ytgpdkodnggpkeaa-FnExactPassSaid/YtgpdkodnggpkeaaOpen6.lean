/-
  Arenas and regions that came in: what a row's reading tells of them.
-/
import Derived.Test.YtgpdkodnggpkeaaOwn6
import Derived.Test.YtgpdkodnggpkeaaRows
import Derived.Deep.Strs
import Derived.OpenShut
import Derived.ChangeSame
import Derived.ChangeOld
import Derived.Deep.DeepCutAuto
namespace Go.Proofs.Ytgpdkodnggpkeaa
open Go.ChangeShapes Go.WideShapes Go.ChangeAt Go.RowKit Go.PlainAid
set_option linter.unusedVariables false

theorem cells3 : Try.prog.cellsOf 3 = 1 := by kernel_rfl
theorem cellsInts : Try.prog.cellsOf 24 = 1 := by kernel_rfl
/-- what the walk is told of a list of numbers that came in -/
def IsRow (k : IntKind) (w : World) (a : Option Addr) (len cap : Nat) (zs : List Int) : Prop :=
  (a = none ∧ len = 0 ∧ cap = 0 ∧ zs = []) ∨
  ∃ x, a = some x ∧ len ≤ cap ∧ cap ≤ maxLen ∧ zs.length = cap ∧ (∀ i, i < zs.length → w.cell? (x.add i) = some (.int k (zs.getD i 0))) ∧ ∀ n ∈ zs, (Lit.int k n).wf = true

theorem rd_of_row {w : World} {a : Option Addr} {len cap : Nat} {zs : List Int} (h : IsRow .i64 w a len cap zs) : Rd w a (zs.take len) ∧ (zs.take len).length = len ∧ len ≤ cap ∧ len ≤ 9223372036854775807 := by
  rcases h with ⟨rfl, rfl, rfl, rfl⟩ | ⟨x, rfl, h1, h2, h3, h4, h5⟩
  · exact ⟨fun h => by simp at h, rfl, Nat.le_refl _, by omega⟩
  · have hl : (zs.take len).length = len := by simp; omega
    unfold maxLen at h2
    refine ⟨fun h0 => ?_, hl, h1, by omega⟩
    obtain ⟨b, off, rfl, hc⟩ := ints_at h4 (by omega)
    refine ⟨b, off, rfl, fun j hj => ?_⟩
    have hj' : j < zs.length := by omega
    rw [hc j hj']
    simp [List.getElem?_eq_getElem hj']

/-- what stands while a law is walked: its two boxes, what came in -/
def LL (w W : World) (a : Option Addr) (l : List Int) : Prop := Below w.heap.size w W ∧ Rd W a l ∧ w.heap.size + 1 < W.heap.size
/-- .. as the drawn regions want it -/
def SL (w W : World) (a : Option Addr) (l : List Int) (u x y : Value) : Prop := W.cell? ⟨w.heap.size, 0, none⟩ = some u ∧ W.cell? ⟨w.heap.size + 1, 0, none⟩ = some x ∧ W.cell? ⟨w.heap.size + 1, 1, none⟩ = some y ∧ LL w W a l
theorem SL.keep {w W W' : World} {a : Option Addr} {l : List Int} {u x y : Value} (h : SL w W a l u x y) (hb : Below W.heap.size W W') : SL w W' a l u x y := by
  obtain ⟨h1, h2, h3, h4, h5, h6⟩ := h
  have hs := hb.size
  exact ⟨(hb.cell (p := ⟨w.heap.size, 0, none⟩) (show w.heap.size < W.heap.size by omega)).trans h1, (hb.cell (p := ⟨w.heap.size + 1, 0, none⟩) h6).trans h2, (hb.cell (p := ⟨w.heap.size + 1, 1, none⟩) h6).trans h3, h4.trans (hb.mono h4.size), h5.keep hb (Nat.le_refl _), by omega⟩
theorem sl_keep {w W W' : World} {a : Option Addr} {l : List Int} {u x y : Value} (hb : Below W.heap.size W W') (h : W.cell? ⟨w.heap.size, 0, none⟩ = some u ∧ W.cell? ⟨w.heap.size + 1, 0, none⟩ = some x ∧ W.cell? ⟨w.heap.size + 1, 1, none⟩ = some y ∧ LL w W a l) :
    W'.cell? ⟨w.heap.size, 0, none⟩ = some u ∧ W'.cell? ⟨w.heap.size + 1, 0, none⟩ = some x ∧ W'.cell? ⟨w.heap.size + 1, 1, none⟩ = some y ∧ LL w W' a l := SL.keep h hb
theorem sl_drew {w W : World} {a : Option Addr} {l : List Int} {u x y : Value} (h : SL w W a l u x y) : W.drew.cell? ⟨w.heap.size, 0, none⟩ = some u ∧ W.drew.cell? ⟨w.heap.size + 1, 0, none⟩ = some x ∧ W.drew.cell? ⟨w.heap.size + 1, 1, none⟩ = some y ∧ LL w W.drew a l :=
  ⟨h.1, h.2.1, h.2.2.1, h.2.2.2.1.drew, h.2.2.2.2.1, h.2.2.2.2.2⟩
theorem sl_rd {w W : World} {a : Option Addr} {l : List Int} {u x y : Value} (h : W.cell? ⟨w.heap.size, 0, none⟩ = some u ∧ W.cell? ⟨w.heap.size + 1, 0, none⟩ = some x ∧ W.cell? ⟨w.heap.size + 1, 1, none⟩ = some y ∧ LL w W a l) : Rd W a l := h.2.2.2.2.1
theorem sl_back {w W : World} {a : Option Addr} {l : List Int} {u x y : Value} (h : W.cell? ⟨w.heap.size, 0, none⟩ = some u ∧ W.cell? ⟨w.heap.size + 1, 0, none⟩ = some x ∧ W.cell? ⟨w.heap.size + 1, 1, none⟩ = some y ∧ LL w W a l) : SL w W a l u x y := h
theorem SL.alloc {w W : World} {a : Option Addr} {l : List Int} {u x y : Value} (h : SL w W a l u x y) (o : Obj) : SL w (W.alloc o) a l u x y := h.keep ((Below.refl _ _).alloc (Nat.le_refl _) _)
theorem sl_start (w : World) (a : Option Addr) (l : List Int) (u x y : Value) (t r : TypeId) (hr : Rd w a l) : SL w ((w.alloc (.cells #[u] t)).alloc (.cells #[x, y] r)) a l u x y := by
  obtain ⟨h1, h2, h3⟩ := arena_start w u x y t r
  have c2 := row2_cells h2
  exact ⟨(row1_cells h1).1, c2.1, c2.2.1, h3, hr.keep h3 (Nat.le_refl _), by simp⟩

/-- .. and the box of what was handed to the program -/
def LX (w W : World) (a : Option Addr) (l : List Int) (b g : Nat) : Prop := LL w W a l ∧ RowAt W g l ∧ b < W.heap.size ∧ w.heap.size + 1 < b ∧ w.heap.size ≤ g
def SX (w W : World) (a : Option Addr) (l : List Int) (u x y z : Value) (b g : Nat) : Prop := W.cell? ⟨b, 0, none⟩ = some z ∧ W.cell? ⟨w.heap.size, 0, none⟩ = some u ∧ W.cell? ⟨w.heap.size + 1, 0, none⟩ = some x ∧ W.cell? ⟨w.heap.size + 1, 1, none⟩ = some y ∧ LX w W a l b g
theorem SX.sl {w W : World} {a : Option Addr} {l : List Int} {u x y z : Value} {b g : Nat} (h : SX w W a l u x y z b g) : SL w W a l u x y := ⟨h.2.1, h.2.2.1, h.2.2.2.1, h.2.2.2.2.1⟩
theorem SX.row {w W : World} {a : Option Addr} {l : List Int} {u x y z : Value} {b g : Nat} (h : SX w W a l u x y z b g) : RowAt W g l := h.2.2.2.2.2.1
theorem SX.below {w W : World} {a : Option Addr} {l : List Int} {u x y z : Value} {b g : Nat} (h : SX w W a l u x y z b g) : Below w.heap.size w W := h.2.2.2.2.1.1
theorem SX.mk' {w W : World} {a : Option Addr} {l : List Int} {u x y : Value} {g : Nat} {z : Value} {t : TypeId} (h : SL w W a l u x y) (hr : RowAt W g l) (hg : w.heap.size ≤ g) : SX w (W.alloc (.cells #[z] t)) a l u x y z W.heap.size g := by
  have h2 := h.alloc (.cells #[z] t)
  have hs := h.2.2.2.2.2
  exact ⟨(row1_cells (heap_new W (.cells #[z] t))).1, h2.1, h2.2.1, h2.2.2.1, h2.2.2.2, (Below.heap_alloc _ _ _ hr.lt).trans hr, by simp, hs, hg⟩
theorem SX.keep {w W W' : World} {a : Option Addr} {l : List Int} {u x y z : Value} {b g : Nat} (h : SX w W a l u x y z b g) (hb : Below W.heap.size W W') : SX w W' a l u x y z b g := by
  have h2 := h.sl.keep hb
  have hs := hb.size
  obtain ⟨h0, _, _, _, hx⟩ := h
  obtain ⟨_, hr, hb1, hb2, hb3⟩ := hx
  exact ⟨(hb.cell (p := ⟨b, 0, none⟩) hb1).trans h0, h2.1, h2.2.1, h2.2.2.1, h2.2.2.2, hr.keep hb hr.lt, by omega, hb2, hb3⟩
theorem sx_keep {w W W' : World} {a : Option Addr} {l : List Int} {u x y z : Value} {b g : Nat} (hb : Below W.heap.size W W') (h : W.cell? ⟨b, 0, none⟩ = some z ∧ W.cell? ⟨w.heap.size, 0, none⟩ = some u ∧ W.cell? ⟨w.heap.size + 1, 0, none⟩ = some x ∧ W.cell? ⟨w.heap.size + 1, 1, none⟩ = some y ∧ LX w W a l b g) :
    W'.cell? ⟨b, 0, none⟩ = some z ∧ W'.cell? ⟨w.heap.size, 0, none⟩ = some u ∧ W'.cell? ⟨w.heap.size + 1, 0, none⟩ = some x ∧ W'.cell? ⟨w.heap.size + 1, 1, none⟩ = some y ∧ LX w W' a l b g := SX.keep h hb
theorem sx_drew {w W : World} {a : Option Addr} {l : List Int} {u x y z : Value} {b g : Nat} (h : SX w W a l u x y z b g) : W.drew.cell? ⟨b, 0, none⟩ = some z ∧ W.drew.cell? ⟨w.heap.size, 0, none⟩ = some u ∧ W.drew.cell? ⟨w.heap.size + 1, 0, none⟩ = some x ∧ W.drew.cell? ⟨w.heap.size + 1, 1, none⟩ = some y ∧ LX w W.drew a l b g :=
  ⟨h.1, h.2.1, h.2.2.1, h.2.2.2.1, ⟨h.2.2.2.2.1.1.drew, h.2.2.2.2.1.2.1, h.2.2.2.2.1.2.2⟩, h.2.2.2.2.2.1, h.2.2.2.2.2.2⟩
theorem sx_rd {w W : World} {a : Option Addr} {l : List Int} {u x y z : Value} {b g : Nat} (h : W.cell? ⟨b, 0, none⟩ = some z ∧ W.cell? ⟨w.heap.size, 0, none⟩ = some u ∧ W.cell? ⟨w.heap.size + 1, 0, none⟩ = some x ∧ W.cell? ⟨w.heap.size + 1, 1, none⟩ = some y ∧ LX w W a l b g) : Rd W a l := h.2.2.2.2.1.2.1
theorem sx_row {w W : World} {a : Option Addr} {l : List Int} {u x y z : Value} {b g : Nat} (h : W.cell? ⟨b, 0, none⟩ = some z ∧ W.cell? ⟨w.heap.size, 0, none⟩ = some u ∧ W.cell? ⟨w.heap.size + 1, 0, none⟩ = some x ∧ W.cell? ⟨w.heap.size + 1, 1, none⟩ = some y ∧ LX w W a l b g) : Rd W (some ⟨g, 0, none⟩) l := h.2.2.2.2.2.1.rd
theorem sx_back {w W : World} {a : Option Addr} {l : List Int} {u x y z : Value} {b g : Nat} (h : W.cell? ⟨b, 0, none⟩ = some z ∧ W.cell? ⟨w.heap.size, 0, none⟩ = some u ∧ W.cell? ⟨w.heap.size + 1, 0, none⟩ = some x ∧ W.cell? ⟨w.heap.size + 1, 1, none⟩ = some y ∧ LX w W a l b g) : SX w W a l u x y z b g := h

theorem undrew {W W' : World} (h : Below W.drew.heap.size W.drew W') : Below W.heap.size W W' := ((Below.refl W.heap.size W).drew).trans h
theorem own_rd' {w : World} {B n c : Nat} {q : Option Addr} {l : List Int} (h : w.ownsRow B 3 1 (.slice q n c) n (intsV l)) : Rd w q l := by
  obtain ⟨a, cap, hv, _, _, hr⟩ := own_rd h
  cases hv
  exact hr
theorem own_grown {w w' : World} {B C e z n : Nat} {v : Value} {xs : List Value} (h : w.ownsRow B e z v n xs) (hg : w.grownBy w' (some C)) (hne : ∀ g, v.ownBlock = some g → g ≠ C) : w'.ownsRow B e z v n xs :=
  h.kept hg (by
    cases hv : v.ownBlock with
    | none => exact .inl rfl
    | some g => exact .inr (fun e => hne g hv (by cases e; rfl)))
theorem SL.grown {w W W' : World} {a : Option Addr} {l : List Int} {u x y : Value} {g : Nat} (h : SL w W a l u x y) (hr : Rd w a l) (hg : W.grownBy W' (some g)) (h2 : w.heap.size + 2 ≤ g) : SL w W' a l u x y := by
  obtain ⟨h1, h3, h4, h5, h6, h7⟩ := h
  have hs := hg.size
  have hb : Below w.heap.size w W' := h5.grown hg h5.size (fun k hk => by cases hk; omega)
  exact ⟨(hg.cell_far ⟨w.heap.size, 0, none⟩ (show w.heap.size < W.heap.size by omega) (by simp; omega)).trans h1, (hg.cell_far ⟨w.heap.size + 1, 0, none⟩ h7 (by simp; omega)).trans h3, (hg.cell_far ⟨w.heap.size + 1, 1, none⟩ h7 (by simp; omega)).trans h4, hb, hr.keep hb (Nat.le_refl _), by omega⟩
theorem markI' (g : Nat) (l : List Int) (n k : Nat) (K : Int) (hK : K = k) (hl : l.length = n) (hn : n ≤ 1048576) (hk : k ≤ 1000000) (w : World) (h : RowAt w g l) :
    Calls Try.prog 49 #[.slice (some ⟨g, 0, none⟩) n n, .int .i64 K] w fun e w' => e = .returned (.int .i64 (K + n)) ∧ RowAt w' g (marks k n) ∧ w.grownBy w' (some g) := by
  subst hK; exact markI g l n k hl hn hk w h
theorem heldI' (g n k : Nat) (K : Int) (hK : K = k) (hn : n ≤ 1048576) (hk : k ≤ 1000000) (w : World) (h : RowAt w g (marks k n)) :
    Calls Try.prog 50 #[.slice (some ⟨g, 0, none⟩) n n, .int .i64 K] w fun e w' => e = .returned (.int .i64 (K + n)) ∧ w' = w := by
  subst hK; exact heldI g n k hn hk w h

theorem SL.set {w W : World} {a : Option Addr} {l : List Int} {u x y z : Value} {b i : Nat} (h : SL w W a l u x y) (hr : Rd w a l) (hb : w.heap.size + 2 ≤ b) : SL w (W.setCell ⟨b, i, none⟩ z) a l u x y :=
  h.grown hr (grown_put _ _ _ _) hb
theorem RowAt.alloc {w : World} {g : Nat} {l : List Int} (h : RowAt w g l) (o : Obj) : RowAt (w.alloc o) g l := (Below.heap_alloc _ _ _ h.lt).trans h
theorem RowAt.on {w w' : World} {g : Nat} {l : List Int} (h : RowAt w g l) (hb : Below w.heap.size w w') : RowAt w' g l := h.keep hb h.lt
theorem row_on {w w' : World} {k : Nat} {o : Obj} (h : w.heap[k]? = some o) (hb : Below w.heap.size w w') : w'.heap[k]? = some o := row_after h hb (row_lt h)
theorem own_on {w w' : World} {B e z n : Nat} {v : Value} {xs : List Value} (h : w.ownsRow B e z v n xs) (hb : Below w.heap.size w w') : w'.ownsRow B e z v n xs := own_keep h hb (own_lt h)
theorem bel_on {w W W' : World} {B : Nat} (hB : B ≤ w.heap.size) (h : Below B w W) (hb : Below W.heap.size W W') : Below B w W' := h.trans (hb.mono (Nat.le_trans hB h.size))

/-- the cells that a drawn region reads, and that all is kept since it began -/
theorem c3_keep {w W0 W' : World} {a : Option Addr} {l : List Int} {u x y : Value} (h : SL w W0 a l u x y) (hB : Below W0.heap.size W0 W') :
    W'.cell? ⟨w.heap.size, 0, none⟩ = some u ∧ W'.cell? ⟨w.heap.size + 1, 0, none⟩ = some x ∧ W'.cell? ⟨w.heap.size + 1, 1, none⟩ = some y ∧ Below W0.heap.size W0 W' := by
  have h2 := h.keep hB
  exact ⟨h2.1, h2.2.1, h2.2.2.1, hB⟩
theorem c3_on {w W0 W W' : World} {u x y : Value} (hb : Below W.heap.size W W') (h : W.cell? ⟨w.heap.size, 0, none⟩ = some u ∧ W.cell? ⟨w.heap.size + 1, 0, none⟩ = some x ∧ W.cell? ⟨w.heap.size + 1, 1, none⟩ = some y ∧ Below W0.heap.size W0 W) : Below W0.heap.size W0 W' := bel_on (Nat.le_refl _) h.2.2.2 hb
theorem c3_bel {w W0 W : World} {u x y : Value} (h : W.cell? ⟨w.heap.size, 0, none⟩ = some u ∧ W.cell? ⟨w.heap.size + 1, 0, none⟩ = some x ∧ W.cell? ⟨w.heap.size + 1, 1, none⟩ = some y ∧ Below W0.heap.size W0 W) : Below W0.heap.size W0 W := h.2.2.2
theorem c3_alloc {w W0 W : World} {a : Option Addr} {l : List Int} {u x y : Value} (hs : SL w W0 a l u x y) (h : W.cell? ⟨w.heap.size, 0, none⟩ = some u ∧ W.cell? ⟨w.heap.size + 1, 0, none⟩ = some x ∧ W.cell? ⟨w.heap.size + 1, 1, none⟩ = some y ∧ Below W0.heap.size W0 W) (o : Obj) :
    (W.alloc o).cell? ⟨w.heap.size, 0, none⟩ = some u ∧ (W.alloc o).cell? ⟨w.heap.size + 1, 0, none⟩ = some x ∧ (W.alloc o).cell? ⟨w.heap.size + 1, 1, none⟩ = some y ∧ Below W0.heap.size W0 (W.alloc o) := c3_keep hs (h.2.2.2.alloc h.2.2.2.size o)
theorem c3_rd {w W0 W : World} {a : Option Addr} {l : List Int} {u x y : Value} (hs : SL w W0 a l u x y) (h : W.cell? ⟨w.heap.size, 0, none⟩ = some u ∧ W.cell? ⟨w.heap.size + 1, 0, none⟩ = some x ∧ W.cell? ⟨w.heap.size + 1, 1, none⟩ = some y ∧ Below W0.heap.size W0 W) : Rd W a l := (hs.keep h.2.2.2).2.2.2.2.1
theorem c4_keep {w W0 W' : World} {a : Option Addr} {l : List Int} {u x y z : Value} {b g : Nat} (h : SX w W0 a l u x y z b g) (hB : Below W0.heap.size W0 W') :
    W'.cell? ⟨b, 0, none⟩ = some z ∧ W'.cell? ⟨w.heap.size, 0, none⟩ = some u ∧ W'.cell? ⟨w.heap.size + 1, 0, none⟩ = some x ∧ W'.cell? ⟨w.heap.size + 1, 1, none⟩ = some y ∧ Below W0.heap.size W0 W' := by
  have h2 := h.keep hB
  exact ⟨h2.1, h2.2.1, h2.2.2.1, h2.2.2.2.1, hB⟩
theorem c4_on {w W0 W W' : World} {u x y z : Value} {b : Nat} (hb : Below W.heap.size W W') (h : W.cell? ⟨b, 0, none⟩ = some z ∧ W.cell? ⟨w.heap.size, 0, none⟩ = some u ∧ W.cell? ⟨w.heap.size + 1, 0, none⟩ = some x ∧ W.cell? ⟨w.heap.size + 1, 1, none⟩ = some y ∧ Below W0.heap.size W0 W) : Below W0.heap.size W0 W' := bel_on (Nat.le_refl _) h.2.2.2.2 hb
theorem c4_bel {w W0 W : World} {u x y z : Value} {b : Nat} (h : W.cell? ⟨b, 0, none⟩ = some z ∧ W.cell? ⟨w.heap.size, 0, none⟩ = some u ∧ W.cell? ⟨w.heap.size + 1, 0, none⟩ = some x ∧ W.cell? ⟨w.heap.size + 1, 1, none⟩ = some y ∧ Below W0.heap.size W0 W) : Below W0.heap.size W0 W := h.2.2.2.2
theorem c4_alloc {w W0 W : World} {a : Option Addr} {l : List Int} {u x y z : Value} {b g : Nat} (hs : SX w W0 a l u x y z b g) (h : W.cell? ⟨b, 0, none⟩ = some z ∧ W.cell? ⟨w.heap.size, 0, none⟩ = some u ∧ W.cell? ⟨w.heap.size + 1, 0, none⟩ = some x ∧ W.cell? ⟨w.heap.size + 1, 1, none⟩ = some y ∧ Below W0.heap.size W0 W) (o : Obj) :
    (W.alloc o).cell? ⟨b, 0, none⟩ = some z ∧ (W.alloc o).cell? ⟨w.heap.size, 0, none⟩ = some u ∧ (W.alloc o).cell? ⟨w.heap.size + 1, 0, none⟩ = some x ∧ (W.alloc o).cell? ⟨w.heap.size + 1, 1, none⟩ = some y ∧ Below W0.heap.size W0 (W.alloc o) := c4_keep hs (h.2.2.2.2.alloc h.2.2.2.2.size o)
theorem c4_row {w W0 W : World} {a : Option Addr} {l : List Int} {u x y z : Value} {b g : Nat} (hs : SX w W0 a l u x y z b g) (h : W.cell? ⟨b, 0, none⟩ = some z ∧ W.cell? ⟨w.heap.size, 0, none⟩ = some u ∧ W.cell? ⟨w.heap.size + 1, 0, none⟩ = some x ∧ W.cell? ⟨w.heap.size + 1, 1, none⟩ = some y ∧ Below W0.heap.size W0 W) : Rd W (some ⟨g, 0, none⟩) l := (hs.keep h.2.2.2.2).row.rd

theorem stL_len (l : List Int) (f s p x : Int) : (stL l f s p x).length = l.length := by
  unfold stL
  split
  · rw [List.length_set]
  · rfl
end Go.Proofs.Ytgpdkodnggpkeaa
