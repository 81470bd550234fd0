/-
  Regions in memory (chapter 4's rows, for the machine's draws).
-/
import Derived.Test.YthnocibkgpofnaaPlacesD
import Derived.Test.YthnocibkgpofnaaSpec26
import Derived.Deep.LoopGhost
import Derived.Deep.DeepCutAuto
import Derived.Deep.RegionWith
namespace Go.Proofs.Ythnocibkgpofnaa.D
open Go.RowKit Go.PlainAid
set_option linter.unusedVariables false
def RdR (w : World) (a : Option Addr) (rl : List (Int × Int)) : Prop := 0 < rl.length → ∃ g off, a = some ⟨g, off, none⟩ ∧ ∀ j (h : j < rl.length), w.cell? ⟨g, off + j * 2, none⟩ = some (.int .i64 rl[j].1) ∧ w.cell? ⟨g, off + j * 2 + 1, none⟩ = some (.int .i64 rl[j].2)
theorem RdR.keep {w w' : World} {a : Option Addr} {rl : List (Int × Int)} {B : Nat} (h : RdR w a rl) (hb : Below B w w') (hB : w.heap.size ≤ B) : RdR w' a rl := fun h0 => by
  obtain ⟨g, off, ha, hc⟩ := h h0
  refine ⟨g, off, ha, fun j hj => ?_⟩
  obtain ⟨h1, h2⟩ := hc j hj
  have hlt := Nat.lt_of_lt_of_le (World.block_lt_of_cell? w ⟨g, off + j * 2, none⟩ h1) hB
  exact ⟨(hb.cell (p := ⟨g, off + j * 2, none⟩) hlt).trans h1, (hb.cell (p := ⟨g, off + j * 2 + 1, none⟩) hlt).trans h2⟩

def regIn (f s : Int) : Prop := 0 ≤ f ∧ f ≤ 63 ∧ 1 ≤ s ∧ s ≤ 64 - f
def apart (f s f' s' : Int) : Prop := f + s ≤ f' ∨ f' + s' ≤ f
/-- right regions -/
def RegsOk (rl : List (Int × Int)) : Prop := 1 ≤ rl.length ∧ rl.length ≤ 4 ∧ (∀ i (h : i < rl.length), regIn rl[i].1 rl[i].2) ∧ ∀ i (h : i < rl.length) k (hk : k < i), apart rl[i].1 rl[i].2 (rl[k]'(by omega)).1 (rl[k]'(by omega)).2

def regsV : List (Int × Int) → List Value
  | [] => []
  | r :: t => .int .i64 r.1 :: .int .i64 r.2 :: regsV t
theorem regsV_len : ∀ rl : List (Int × Int), (regsV rl).length = rl.length * 2
  | [] => rfl
  | r :: t => by simp [regsV, regsV_len t]; omega
theorem regsV_append : ∀ x y : List (Int × Int), regsV (x ++ y) = regsV x ++ regsV y
  | [], y => rfl
  | r :: t, y => by simp [regsV, regsV_append t y]
theorem regsV_at : ∀ (rl : List (Int × Int)) (j : Nat) (h : j < rl.length), (regsV rl)[j * 2]? = some (.int .i64 rl[j].1) ∧ (regsV rl)[j * 2 + 1]? = some (.int .i64 rl[j].2)
  | [], j, h => by simp at h
  | r :: t, 0, h => by simp [regsV]
  | r :: t, j + 1, h => by
    have := regsV_at t j (by simpa using h)
    rw [show (j + 1) * 2 = j * 2 + 1 + 1 by omega]
    simpa [regsV] using this
theorem regsV_set : ∀ (rl : List (Int × Int)) (j : Nat) (f s : Int), ((regsV rl).set (j * 2) (.int .i64 f)).set (j * 2 + 1) (.int .i64 s) = regsV (rl.set j (f, s))
  | [], j, f, s => by simp [regsV]
  | r :: t, 0, f, s => by simp [regsV]
  | r :: t, j + 1, f, s => by
    have := regsV_set t j f s
    rw [show (j + 1) * 2 = j * 2 + 1 + 1 by omega]
    simpa [regsV] using this
theorem regsV_one : ∀ rl : List (Int × Int), ∀ v ∈ regsV rl, v.oneCell' = true
  | [], v, h => by cases h
  | r :: t, v, h => by
    rcases List.mem_cons.1 h with rfl | h
    · rfl
    · rcases List.mem_cons.1 h with rfl | h
      · rfl
      · exact regsV_one t v h

/-- a block that is a list of regions, whole -/
def RowR (w : World) (g : Nat) (rl : List (Int × Int)) : Prop := w.heap[g]? = some (.cells (regsV rl).toArray 36 (0, 0))
theorem RowR.lt {w : World} {g : Nat} {rl : List (Int × Int)} (h : RowR w g rl) : g < w.heap.size := row_lt h
theorem RowR.on {w w' : World} {g : Nat} {rl : List (Int × Int)} (h : RowR w g rl) (hb : Below w.heap.size w w') : RowR w' g rl := row_after h hb (row_lt h)
theorem RowR.cell {w : World} {g : Nat} {rl : List (Int × Int)} (h : RowR w g rl) (j : Nat) (hj : j < rl.length) : w.cell? ⟨g, j * 2, none⟩ = some (.int .i64 rl[j].1) ∧ w.cell? ⟨g, j * 2 + 1, none⟩ = some (.int .i64 rl[j].2) := by
  have := regsV_at rl j hj
  rw [cell_of_row w g (j * 2) _ _ (0, 0) h, cell_of_row w g (j * 2 + 1) _ _ (0, 0) h]
  simpa using this
theorem RowR.free {w : World} {g : Nat} {rl : List (Int × Int)} (h : RowR w g rl) (j : Nat) : w.frozen? ⟨g, j, none⟩ = false := frozen_of_row w g j _ _ h
theorem RowR.rd {w : World} {g : Nat} {rl : List (Int × Int)} (h : RowR w g rl) : RdR w (some ⟨g, 0, none⟩) rl := fun _ => ⟨g, 0, rfl, fun j hj => by rw [Nat.zero_add]; exact h.cell j hj⟩
theorem RowR.set {w : World} {g : Nat} {rl : List (Int × Int)} (h : RowR w g rl) (j : Nat) (f s : Int) : RowR ((w.setCell ⟨g, j * 2, none⟩ (.int .i64 f)).setCell ⟨g, j * 2 + 1, none⟩ (.int .i64 s)) g (rl.set j (f, s)) := by
  unfold RowR at h ⊢
  have h1 := heap_setCell_same w g (j * 2) _ _ (.int .i64 f) h
  rw [heap_setCell_same _ g (j * 2 + 1) _ _ (.int .i64 s) h1, ← regsV_set]
  simp

theorem infoR : (Try.prog.info? 36).map (fun i => (i.zero, i.size, i.bytes)) = some (some (.agg #[.int .i64 0, .int .i64 0]), 2, 16) := by kernel_rfl
theorem regsV_zero (n : Nat) : madeCells #[.int .i64 0, .int .i64 0] (n * 2) = (regsV (List.replicate n (0, 0))).toArray := by
  apply Array.ext
  · simp [madeCells, regsV_len]
  · intro j h1 h2
    have hj : j < n * 2 := by simpa [madeCells] using h1
    have h0 : j / 2 < n := by omega
    have hr := regsV_at (List.replicate n ((0, 0) : Int × Int)) (j / 2) (by simpa using h0)
    have hz : (regsV (List.replicate n ((0, 0) : Int × Int)))[j]? = some (.int .i64 0) := by
      rcases Nat.mod_two_eq_zero_or_one j with e | e
      · have := hr.1
        rw [show j / 2 * 2 = j by omega] at this
        simpa using this
      · have := hr.2
        rw [show j / 2 * 2 + 1 = j by omega] at this
        simpa using this
    have hl : (madeCells #[Value.int .i64 0, .int .i64 0] (n * 2))[j] = .int .i64 0 := by
      rcases Nat.mod_two_eq_zero_or_one j with e | e <;> simp [madeCells, e]
    rw [hl]
    have hj2 : j < (regsV (List.replicate n ((0, 0) : Int × Int))).length := by simpa using h2
    rw [List.getElem?_eq_getElem hj2] at hz
    simpa using (Option.some.inj hz).symm

theorem makeR (n : Nat) (hn : n ≤ 1048576) (w : World) : (Instr.makeSlice 96 (.int .i64 n) (.int .i64 n)).run Try.prog w = .ok (.slice (some ⟨w.heap.size, 0, none⟩) n n) (w.alloc (.cells (regsV (List.replicate n (0, 0))).toArray 36)) := by
  obtain ⟨i0, hi, hz0, hz1, hz2⟩ := info_parts infoR
  have h := run_make (P := Try.prog) w 96 36 i0 _ Try.underlying96 hi hz0 .i64 .i64 n n (by omega) (Int.le_refl _) (by rw [hz2]; omega) (by omega)
  rw [hz1, Int.toNat_natCast, show (Value.agg #[.int .i64 0, .int .i64 0]).cells = #[.int .i64 0, .int .i64 0] from rfl, regsV_zero] at h
  exact h
/-- an owned list of regions, read -/
theorem own_rdR {w : World} {B n : Nat} {v : Value} {rl : List (Int × Int)} (h : w.ownsRow B 36 2 v n (regsV rl)) : ∃ a cap, v = .slice a n cap ∧ n ≤ cap ∧ rl.length = n ∧ RdR w a rl := by
  have h' := h
  have hl : rl.length = n := by have := h.1; rw [regsV_len] at this; omega
  rcases h.2 with ⟨rfl, e⟩ | ⟨g, cap, cur, rfl, hg, hh, hnc, hcp, hcs, htake⟩
  · exact ⟨none, 0, by rw [e], by omega, hl, fun h0 => by omega⟩
  · refine ⟨_, cap, rfl, hnc, hl, fun _ => ⟨g, 0, rfl, fun j hj => ?_⟩⟩
    have hc := h'.cells rfl
    have ha := regsV_at rl j hj
    have h1 := hc _ _ ha.1
    have h2 := hc _ _ ha.2
    rw [add_at] at h1 h2
    exact ⟨h1, by rw [show 0 + j * 2 + 1 = 0 + (j * 2 + 1) by omega]; exact h2⟩
end Go.Proofs.Ythnocibkgpofnaa.D

namespace Go.Proofs.Ythnocibkgpofnaa.D
open Go.RowKit Go.PlainAid
set_option linter.unusedVariables false

/-- regions one behind the other, all ahead of F -/
def Asc (rl : List (Int × Int)) (F : Int) : Prop := (∀ i (h : i < rl.length), regIn rl[i].1 rl[i].2 ∧ rl[i].1 + rl[i].2 ≤ F) ∧ ∀ i (h : i < rl.length) k (hk : k < i), (rl[k]'(by omega)).1 + (rl[k]'(by omega)).2 ≤ rl[i].1
theorem asc_nil (F : Int) : Asc [] F := ⟨fun i h => by simp at h, fun i h => by simp at h⟩
theorem asc_mono {rl : List (Int × Int)} {F G : Int} (h : Asc rl F) (hG : F ≤ G) : Asc rl G := ⟨fun i hi => ⟨(h.1 i hi).1, by have := (h.1 i hi).2; omega⟩, h.2⟩
theorem asc_add {rl : List (Int × Int)} {F s : Int} (h : Asc rl F) (hr : regIn F s) : Asc (rl ++ [(F, s)]) (F + s) := by
  have hs : 1 ≤ s := hr.2.2.1
  refine ⟨fun i hi => ?_, fun i hi k hk => ?_⟩
  · by_cases e : i < rl.length
    · rw [List.getElem_append_left e]
      exact ⟨(h.1 i e).1, by have := (h.1 i e).2; omega⟩
    · have : i = rl.length := by simp at hi; omega
      subst this
      simp
      exact hr
  · have hk' : k < rl.length := by simp at hi; omega
    rw [List.getElem_append_left hk']
    by_cases e : i < rl.length
    · rw [List.getElem_append_left e]
      exact h.2 i e k hk
    · have : i = rl.length := by simp at hi; omega
      subst this
      simp
      exact (h.1 k hk').2
theorem asc_ok {rl : List (Int × Int)} {F : Int} (h : Asc rl F) (h1 : 1 ≤ rl.length) (h4 : rl.length ≤ 4) : RegsOk rl :=
  ⟨h1, h4, fun i hi => (h.1 i hi).1, fun i hi k hk => .inr (h.2 i hi k hk)⟩

theorem own_gr {w w' : World} {B C e z n : Nat} {v : Value} {xs : List Value} (h : w.ownsRow B e z v n xs) (hg : w.grownBy w' (some C)) (hC : C < B) : w'.ownsRow B e z v n xs :=
  h.kept hg (by
    cases hv : v.ownBlock with
    | none => exact .inl rfl
    | some g => exact .inr (fun e => by cases e; have := own_ge h C hv; omega))
theorem row_drawn {W W' : World} {k C : Nat} {o : Obj} (h : W.heap[k]? = some o) (hg : W.grownBy W' (some C)) (hk : k ≠ C) : W'.heap[k]? = some o :=
  (hg.block k (row_lt h) (fun e => by cases e; exact hk rfl)).trans h
theorem own_emptyR (w : World) (B : Nat) (hB : B ≤ w.heap.size) : (w.alloc (.cells #[] 36)).ownsRow B 36 2 (.slice (some ⟨w.heap.size, 0, none⟩) 0 0) 0 (regsV []) :=
  ⟨rfl, Or.inr ⟨_, 0, #[], rfl, hB, by show (w.heap.push _)[w.heap.size]? = _; simp, Nat.le_refl _, by decide, rfl, rfl⟩⟩
theorem two_cellR (wr : World) (x y : Value) (a : Addr) (ha : a = ⟨wr.heap.size, 0, none⟩) : ∀ j u, [x, y][j]? = some u → (wr.alloc (.cells #[x, y] 36)).cell? (a.add j) = some u := by
  intro j u hj
  subst ha
  match j, hj with
  | 0, hj => simp at hj; subst hj; simp [Addr.add]
  | 1, hj => simp at hj; subst hj; simp [Addr.add]
/-- what is appended to new memory, behind a draw -/
theorem drawn_grown {w W W' : World} {C B : Nat} {a : Option Addr} {len cap : Nat} {v : Value} (h : Drawn w W C B a len cap) (hg : W.grownBy W' v.ownBlock) (hv : ∀ g, v.ownBlock = some g → w.heap.size ≤ g) (hC : C < w.heap.size) (hB : B ≤ w.heap.size) : Drawn w W' C B a len cap :=
  ⟨cur_new (B := B) h.1 hg (fun g e => by have := hv g e; omega), code_below h.2.1 ((Below.refl _ _).grown hg (Nat.le_trans hB h.2.2.size) (fun g e => by have := hv g e; omega)), grown_new h.2.2 hg hv⟩

theorem drawn_drew {w W : World} {C B : Nat} {a : Option Addr} {len cap : Nat} (h : Drawn w W C B a len cap) : Drawn w W.drew C B a len cap :=
  ⟨h.1, h.2.1, ⟨h.2.2.os, h.2.2.tape, h.2.2.output, h.2.2.size, h.2.2.block⟩⟩
/-- what stands while a next region is drawn -/
def DS (w W : World) (C B : Nat) (a : Option Addr) (len cap : Nat) (v : Value) (rl : List (Int × Int)) (k : Nat) (x y : Value) : Prop := Drawn w W C B a len cap ∧ W.ownsRow w.heap.size 36 2 v rl.length (regsV rl) ∧ W.heap[k]? = some (.cells #[x, y] 36) ∧ C < w.heap.size ∧ w.heap.size ≤ k
theorem ds_conj {w W : World} {C B : Nat} {a : Option Addr} {len cap : Nat} {v : Value} {rl : List (Int × Int)} {k : Nat} {x y : Value} (h : DS w W C B a len cap v rl k x y) : W.cell? ⟨k, 0, none⟩ = some x ∧ W.cell? ⟨k, 1, none⟩ = some y ∧ DS w W C B a len cap v rl k x y :=
  ⟨(row2_cells h.2.2.1).1, (row2_cells h.2.2.1).2.1, h⟩
theorem DS.on {w W W' : World} {C B : Nat} {a : Option Addr} {len cap : Nat} {v : Value} {rl : List (Int × Int)} {k : Nat} {x y : Value} (h : DS w W C B a len cap v rl k x y) (hD : Drawn W W' C B a len cap) : DS w W' C B a len cap v rl k x y :=
  ⟨drawn_trans h.1 hD, own_gr h.2.1 hD.2.2 h.2.2.2.1, row_drawn h.2.2.1 hD.2.2 (by have := h.2.2.2.1; have := h.2.2.2.2; omega), h.2.2.2.1, h.2.2.2.2⟩
theorem DS.drew {w W : World} {C B : Nat} {a : Option Addr} {len cap : Nat} {v : Value} {rl : List (Int × Int)} {k : Nat} {x y : Value} (h : DS w W C B a len cap v rl k x y) : DS w W.drew C B a len cap v rl k x y := ⟨drawn_drew h.1, h.2⟩
theorem ds_keep {w W W' : World} {C B : Nat} {a : Option Addr} {len cap : Nat} {v : Value} {rl : List (Int × Int)} {k : Nat} {x y : Value} (hD : Drawn W W' C B a len cap) (h : W.cell? ⟨k, 0, none⟩ = some x ∧ W.cell? ⟨k, 1, none⟩ = some y ∧ DS w W C B a len cap v rl k x y) : W'.cell? ⟨k, 0, none⟩ = some x ∧ W'.cell? ⟨k, 1, none⟩ = some y ∧ DS w W' C B a len cap v rl k x y := ds_conj (h.2.2.on hD)
theorem ds_cur {w W : World} {C B : Nat} {a : Option Addr} {len cap : Nat} {v : Value} {rl : List (Int × Int)} {k : Nat} {x y : Value} (h : W.cell? ⟨k, 0, none⟩ = some x ∧ W.cell? ⟨k, 1, none⟩ = some y ∧ DS w W C B a len cap v rl k x y) : Cur W C a len cap ∧ CodeOk W B a len := ⟨h.2.2.1.1, h.2.2.1.2.1⟩

set_option maxRecDepth 100000 in
set_option maxHeartbeats 2000000 in
theorem regions (C B : Nat) (a : Option Addr) (len cap : Nat) (w : World) (hC : Cur w C a len cap) (hB : B ≤ C) (hcode : CodeOk w B a len) :
    Calls Try.prog 75 #[.pointer (some ⟨C, 0, none⟩)] w fun e w' => ∃ (v : Value) (rl : List (Int × Int)), e = .returned v ∧ RegsOk rl ∧ w'.ownsRow w.heap.size 36 2 v rl.length (regsV rl) ∧ Drawn w w' C B a len cap := by
  obtain ⟨i0, hi, hz0, hz1, hz2⟩ := info_parts infoR
  have hlt := cur_lt hC
  have HD0 : Hid (Drawn w (w.alloc (.cells #[] 36)) C B a len cap) := drawn_alloc ⟨hC, hcode, World.grownBy.refl _ _⟩ (by omega) _
  have HO0 : Hid (World.ownsRow _ _ _ _ _ _ _) := own_emptyR w w.heap.size (Nat.le_refl _)
  clear hC hcode
  go_enter Try.func75, Try.ntmps75
  go_wp2_with fail
  refine (below28 C B a len cap 6 (by omega) (by omega) _ HD0.out.1 hB HD0.out.2.1).mono ?_
  rintro e w1 ⟨F0, rfl, f0, f1, hD⟩
  have HD1 : Hid (Drawn w w1 C B a len cap) := drawn_trans HD0.out hD
  have HO1 : Hid (w1.ownsRow w.heap.size 36 2 (.slice (some ⟨w.heap.size, 0, none⟩) 0 0) 0 (regsV [])) := own_gr HO0.out hD.2.2 hlt
  clear hD HD0 HO0
  go_wp2
  go_loopg [3, 4, 5] 4 (fun gk v fv iv wr => ∃ (i c : Nat) (F : Int) (rl : List (Int × Int)) (q : Option Addr), i + gk = 4 ∧ iv = .int .i64 i ∧ fv = .int .i64 F ∧ 0 ≤ F ∧ F ≤ 5 + 16 * i ∧ v = .slice q rl.length c ∧ rl.length ≤ i ∧ Hid (1 ≤ i → 1 ≤ rl.length) ∧ Hid (Asc rl F) ∧ Hid (wr.ownsRow w.heap.size 36 2 (.slice q rl.length c) rl.length (regsV rl)) ∧ Hid (Drawn w wr C B a len cap))
  case atStart => exact ⟨0, 0, F0, [], some ⟨w.heap.size, 0, none⟩, by omega, rfl, rfl, f0, by omega, rfl, by simp, (fun h => by omega), asc_nil _, HO1, HD1⟩
  case round =>
    clear HD1 HO1
    obtain ⟨i, c, F, rl, q, hi4, rfl, rfl, hF0, hF1, rfl, hrl, H1, HA, HO, HD⟩ := hrel
    go_wp2_with fail
    refine (below28 C B a len cap 4 (by omega) (by omega) _ HD.out.1 hB HD.out.2.1).mono ?_
    rintro e w2 ⟨x, rfl, x0, x1, hD⟩
    have HD2 : Hid (Drawn w w2 C B a len cap) := drawn_trans HD.out hD
    have HO2 : Hid (w2.ownsRow w.heap.size 36 2 (.slice q rl.length c) rl.length (regsV rl)) := own_gr HO.out hD.2.2 hlt
    clear hD HD HO
    by_cases hx : (i : Int) < 1 + x
    · have hi3 : i ≤ 3 := by omega
      go_wp2_with fail
      refine (below28 C B a len cap 14 (by omega) (by omega) _ HD2.out.1 hB HD2.out.2.1).mono ?_
      rintro e w3 ⟨y, rfl, y0, y1, hD⟩
      have HD3 : Hid (Drawn w w3 C B a len cap) := drawn_trans HD2.out hD
      have HO3 : Hid (w3.ownsRow w.heap.size 36 2 (.slice q rl.length c) rl.length (regsV rl)) := own_gr HO2.out hD.2.2 hlt
      have s3 := HD3.out.2.2.size
      clear hD HD2 HO2
      have HDa : Hid (Drawn w (w3.alloc (.cells #[.int .i64 F, .int .i64 (1 + y)] 36)) C B a len cap) := drawn_alloc HD3.out (by omega) _
      have HOa : Hid ((w3.alloc (.cells #[.int .i64 F, .int .i64 (1 + y)] 36)).ownsRow w.heap.size 36 2 (.slice q rl.length c) rl.length (regsV rl)) := HO3.out.alloc _
      have HBa : Hid ((w3.alloc (.cells #[.int .i64 F, .int .i64 (1 + y)] 36)).heap[w3.heap.size]? = _) := heap_new w3 _
      have HQ : Hid (∀ g, (Value.slice q rl.length c).ownBlock = some g → g < w3.heap.size) := own_lt HO3.out
      clear HD3 HO3
      by_cases hfit : F + (1 + y) ≤ 64
      · have HA' : Hid (Asc (rl ++ [(F, 1 + y)]) (F + (1 + y))) := asc_add HA.out ⟨hF0, by omega, by omega, by omega⟩
        have hown := HOa.out.alloc (.cells #[.int .i64 F, .int .i64 (1 + y)] 36)
        go_wp2_with (at_builtin; refine wpList_append_own _ rfl _ _ 96 rfl w.heap.size 36 i0 (.agg #[.int .i64 0, .int .i64 0]) 2 16 Try.underlying96 hi hz0 hz1 hz2 rfl (by decide) _ _ _ rfl hown ⟨w3.heap.size + 1, 0, none⟩ 1 1 [.int .i64 F, .int .i64 (1 + y)] rfl rfl ?c1 ?c2 ?c3 ?c4 ?c5 ?_)
        case c1 => exact two_cellR _ _ _ _ (by simp)
        case c2 => intro u hu; simp at hu; rcases hu with rfl | rfl <;> rfl
        case c3 => unfold maxLen; omega
        case c4 => omega
        case c5 => simp; omega
        intro v' w5 hown5 hgrow _
        have HD5 : Hid (Drawn w w5 C B a len cap) := drawn_grown (drawn_alloc HDa.out (by simp; omega) _) hgrow (own_ge HOa.out) hlt (by omega)
        have HB5 : Hid (w5.heap[w3.heap.size]? = some (.cells #[.int .i64 F, .int .i64 (1 + y)] 36)) := grown_row hgrow ((Below.heap_alloc _ _ _ (by simp)).trans HBa.out) (fun e => by have := HQ.out _ e; omega)
        obtain ⟨q', c', hv⟩ := own_shape hown5
        subst hv
        have HL5 : Hid ((rl ++ [(F, 1 + y)]).length = rl.length + 1) := by show _ = _; simp
        have HO5 : Hid (w5.ownsRow w.heap.size 36 2 (.slice q' (rl ++ [(F, 1 + y)]).length c') (rl ++ [(F, 1 + y)]).length (regsV (rl ++ [(F, 1 + y)]))) := by
          rw [HL5.out, regsV_append]
          exact hown5
        have HS : Hid (DS w w5 C B a len cap (.slice q' (rl ++ [(F, 1 + y)]).length c') (rl ++ [(F, 1 + y)]) w3.heap.size (.int .i64 F) (.int .i64 (1 + y))) := ⟨HD5.out, HO5.out, HB5.out, hlt, s3⟩
        obtain ⟨G, q1, HG⟩ : ∃ G, IntKind.i64.wrap (F + (1 + y)) = G ∧ Hid (G = F + (1 + y)) := ⟨F + (1 + y), wrap_in (by omega) (by omega), rfl⟩
        have hG0 : 0 ≤ G := by have := HG.out; omega
        have hG1 : G ≤ 64 := by have := HG.out; omega
        have hG2 : G ≤ 5 + 16 * i + 14 := by have := HG.out; omega
        clear hown hown5 hgrow HD5 HB5 HO5 HDa HOa HBa
        go_wp2_with fail
        go_region_held3 (fun w' => w'.cell? ⟨w3.heap.size, 0, none⟩ = some (.int .i64 F) ∧ w'.cell? ⟨w3.heap.size, 1, none⟩ = some (.int .i64 (1 + y)) ∧ DS w w' C B a len cap (.slice q' (rl ++ [(F, 1 + y)]).length c') (rl ++ [(F, 1 + y)]) w3.heap.size (.int .i64 F) (.int .i64 (1 + y))) (first | (refine ds_keep (by assumption) ?_; assumption) | (exact ds_conj HS.out.drew)) (first | (go_at_call 40; refine (below28 C B a len cap 3 (by omega) (by omega) _ ?_ hB ?_).mono ?_; (exact (ds_cur (by assumption)).1); (exact (ds_cur (by assumption)).2); rintro e w6 ⟨z, rfl, z0, z1, hD⟩; have q2 : IntKind.i64.wrap (G + z) = G + z := wrap_in (by omega) (by omega)))
        rename_i HH
        have HS6 : Hid (DS _ _ _ _ _ _ _ _ _ _ _ _) := HH.2.2
        clear HH hD HS
        go_wp2
        go_roundg (gk - 1)
        case measure => omega
        case rel => exact ⟨i + 1, c', G + z, rl ++ [(F, 1 + y)], q', by omega, by go_num, rfl, by omega, by omega, by rw [HL5.out], by rw [HL5.out]; omega, (fun _ => by rw [HL5.out]; omega), asc_mono HA'.out (by have := HG.out; omega), HS6.out.2.1, HS6.out.1⟩
      · have HN1 : Hid (1 ≤ rl.length) := H1.out (by omega)
        have HS : Hid (DS w _ C B a len cap (.slice q rl.length c) rl w3.heap.size (.int .i64 F) (.int .i64 (1 + y))) := ⟨HDa.out, HOa.out, HBa.out, hlt, s3⟩
        obtain ⟨G, q1, HG⟩ : ∃ G, IntKind.i64.wrap (F + (1 + y)) = G ∧ Hid (G = F + (1 + y)) := ⟨F + (1 + y), wrap_in (by omega) (by omega), rfl⟩
        have hG0 : 0 ≤ G := by have := HG.out; omega
        have hG1 : G ≤ 100 := by have := HG.out; omega
        have hGf : ¬ G ≤ 64 := by have := HG.out; omega
        have hG2 : G ≤ 5 + 16 * i + 14 := by have := HG.out; omega
        clear HDa HOa HBa
        go_wp2_with fail
        go_region_held3 (fun w' => w'.cell? ⟨w3.heap.size, 0, none⟩ = some (.int .i64 F) ∧ w'.cell? ⟨w3.heap.size, 1, none⟩ = some (.int .i64 (1 + y)) ∧ DS w w' C B a len cap (.slice q rl.length c) rl w3.heap.size (.int .i64 F) (.int .i64 (1 + y))) (first | (refine ds_keep (by assumption) ?_; assumption) | (exact ds_conj HS.out.drew)) (first | (go_at_call 40; refine (below28 C B a len cap 3 (by omega) (by omega) _ ?_ hB ?_).mono ?_; (exact (ds_cur (by assumption)).1); (exact (ds_cur (by assumption)).2); rintro e w6 ⟨z, rfl, z0, z1, hD⟩; have q2 : IntKind.i64.wrap (G + z) = G + z := wrap_in (by omega) (by omega)))
        rename_i HH
        have HS6 : Hid (DS _ _ _ _ _ _ _ _ _ _ _ _) := HH.2.2
        clear HH hD HS
        go_wp2
        go_roundg (gk - 1)
        case measure => omega
        case rel => exact ⟨i + 1, c, G + z, rl, q, by omega, by go_num, rfl, by omega, by omega, rfl, by omega, (fun _ => HN1.out), asc_mono HA.out (by have := HG.out; omega), HS6.out.2.1, HS6.out.1⟩
    · have HK : Hid (RegsOk rl) := asc_ok HA.out (H1.out (by omega)) (by omega)
      go_wp2
      go_ret
      exact ⟨_, rl, rfl, HK.out, HO2.out, HD2.out⟩
end Go.Proofs.Ythnocibkgpofnaa.D

namespace Go.Proofs.Ythnocibkgpofnaa.D
open Go.RowKit Go.PlainAid
set_option linter.unusedVariables false

theorem regsV_set0 : ∀ (rl : List (Int × Int)) (j : Nat) (h : j < rl.length) (f : Int), (regsV rl).set (j * 2) (.int .i64 f) = regsV (rl.set j (f, rl[j].2))
  | [], j, h, f => by simp at h
  | r :: t, 0, h, f => by simp [regsV]
  | r :: t, j + 1, h, f => by
    have := regsV_set0 t j (by simpa using h) f
    rw [show (j + 1) * 2 = j * 2 + 1 + 1 by omega]
    simpa [regsV] using this
theorem regsV_set1 : ∀ (rl : List (Int × Int)) (j : Nat) (h : j < rl.length) (s : Int), (regsV rl).set (j * 2 + 1) (.int .i64 s) = regsV (rl.set j (rl[j].1, s))
  | [], j, h, s => by simp at h
  | r :: t, 0, h, s => by simp [regsV]
  | r :: t, j + 1, h, s => by
    have := regsV_set1 t j (by simpa using h) s
    rw [show (j + 1) * 2 = j * 2 + 1 + 1 by omega]
    simpa [regsV] using this
theorem own_atR {w : World} {B n g c j : Nat} {rl : List (Int × Int)} (h : w.ownsRow B 36 2 (.slice (some ⟨g, 0, none⟩) n c) n (regsV rl)) (hj : j < rl.length) : w.cell? ⟨g, j * 2, none⟩ = some (.int .i64 rl[j].1) ∧ w.cell? ⟨g, j * 2 + 1, none⟩ = some (.int .i64 rl[j].2) := by
  have hc := h.cells rfl
  have ha := regsV_at rl j hj
  have h1 := hc _ _ ha.1
  have h2 := hc _ _ ha.2
  rw [add_at, Nat.zero_add] at h1 h2
  exact ⟨h1, h2⟩
theorem drawn_put {w W : World} {C B : Nat} {a : Option Addr} {len cap : Nat} (h : Drawn w W C B a len cap) {k : Nat} (i : Nat) (v : Value) (hk : w.heap.size ≤ k) (hC : C < w.heap.size) (hB : B ≤ C) : Drawn w (W.setCell ⟨k, i, none⟩ v) C B a len cap := by
  obtain ⟨⟨j, x, hj, hc⟩, hcode, hg⟩ := h
  refine ⟨⟨j, x, hj, ?_⟩, code_below hcode ((Below.refl _ _).setCell (by show _ ≤ k; omega) v), ?_⟩
  · unfold CurAt
    rw [Below.heap_setCell _ _ _ _ (by show C ≠ k; omega)]
    exact hc
  · have hs : (W.setCell ⟨k, i, none⟩ v).heap.size = W.heap.size := by simp
    exact ⟨hg.os, hg.tape, hg.output, by rw [hs]; exact hg.size, fun m hm hne => (Below.heap_setCell _ _ _ _ (show m ≠ k by omega)).trans (hg.block m hm hne)⟩

set_option maxRecDepth 100000 in
set_option maxHeartbeats 4000000 in
theorem anyR (C B : Nat) (a : Option Addr) (len cap : Nat) (w : World) (hC : Cur w C a len cap) (hB : B ≤ C) (hcode : CodeOk w B a len) :
    Calls Try.prog 65 #[.pointer (some ⟨C, 0, none⟩)] w fun e w' => ∃ (v : Value) (rl : List (Int × Int)), e = .returned v ∧ rl.length ≤ 5 ∧ w'.ownsRow w.heap.size 36 2 v rl.length (regsV rl) ∧ Drawn w w' C B a len cap := by
  obtain ⟨i0, hi, hz0, hz1, hz2⟩ := info_parts infoR
  have hlt := cur_lt hC
  have HCu : Hid (Cur w C a len cap) := hC
  have HCo : Hid (CodeOk w B a len) := hcode
  clear hC hcode
  go_enter Try.func65, Try.ntmps65
  go_wp2_with fail
  refine (regions C B a len cap _ HCu.out hB HCo.out).mono ?_
  rintro e w1 ⟨v, rl, rfl, hok, hown, hD⟩
  obtain ⟨q, c, hv⟩ := own_shape hown
  subst hv
  have hn1 := hok.1
  have hn4 := hok.2.1
  obtain ⟨g, rfl, hg⟩ := own_addr hown (by omega)
  obtain ⟨n, HN⟩ : ∃ n, Hid (rl.length = n) := ⟨_, rfl⟩
  rw [HN.out] at hown hn1 hn4 ⊢
  have HO1 : Hid (w1.ownsRow w.heap.size 36 2 (.slice (some ⟨g, 0, none⟩) n c) n (regsV rl)) := hown
  have HD1 : Hid (Drawn w w1 C B a len cap) := hD
  clear hok hown hD HCu HCo
  go_wp2_with fail
  refine (below28 C B a len cap n (by omega) (by omega) _ HD1.out.1 hB HD1.out.2.1).mono ?_
  rintro e w2 ⟨k0, rfl, k0a, k0b, hD⟩
  obtain ⟨k, rfl⟩ := Int.eq_ofNat_of_zero_le k0a
  have hkl : k < rl.length := by have := HN.out; omega
  have HD2 : Hid (Drawn w w2 C B a len cap) := drawn_trans HD1.out hD
  have HO2 : Hid (w2.ownsRow w.heap.size 36 2 (.slice (some ⟨g, 0, none⟩) n c) n (regsV rl)) := own_gr HO1.out hD.2.2 hlt
  clear hD HD1 HO1
  go_wp2_with fail
  refine (below28 C B a len cap 12 (by omega) (by omega) _ HD2.out.1 hB HD2.out.2.1).mono ?_
  rintro e w3 ⟨y, rfl, y0, y1, hD⟩
  have HD3 : Hid (Drawn w w3 C B a len cap) := drawn_trans HD2.out hD
  have HO3 : Hid (w3.ownsRow w.heap.size 36 2 (.slice (some ⟨g, 0, none⟩) n c) n (regsV rl)) := own_gr HO2.out hD.2.2 hlt
  have s3 := HD3.out.2.2.size
  have lg := own_lt HO3.out g rfl
  clear hD HD2 HO2
  by_cases h0 : (y == 0) = true
  · have HDa : Hid (∀ o, Drawn w (w3.alloc o) C B a len cap) := fun o => drawn_alloc HD3.out (by omega) o
    have HOa : Hid (∀ o, (w3.alloc o).ownsRow w.heap.size 36 2 (.slice (some ⟨g, 0, none⟩) n c) n (regsV rl)) := fun o => HO3.out.alloc o
    have HLI : Hid _ := laid_ints w3 [-1, 0, 63, 64, -9223372036854775808]
    go_wp2_with fail
    refine (pick26' C B a len cap [-1, 0, 63, 64, -9223372036854775808] 5 _ _ rfl (by omega) (by omega) _ (HDa.out _).1 hB (HDa.out _).2.1 (by omega) (by simp) HLI.out).mono ?_
    rintro e w4 ⟨z, rfl, hz, hD⟩
    have HD4 : Hid (Drawn w w4 C B a len cap) := drawn_trans (HDa.out _) hD
    have HO4 : Hid (w4.ownsRow w.heap.size 36 2 (.slice (some ⟨g, 0, none⟩) n c) n (regsV rl)) := own_gr (HOa.out _) hD.2.2 hlt
    have hc := (own_atR HO4.out hkl).1
    have hfz := HO4.out.frozenAt (k * 2)
    have HO5 : Hid ((w4.setCell ⟨g, k * 2, none⟩ (.int .i64 z)).ownsRow w.heap.size 36 2 (.slice (some ⟨g, 0, none⟩) n c) n (regsV (rl.set k (z, rl[k].2)))) := by
      have := (HO4.out.stored (k * 2) (.int .i64 z)).1
      rw [regsV_set0 rl k hkl] at this
      exact this
    have HD5 : Hid (Drawn w (w4.setCell ⟨g, k * 2, none⟩ (.int .i64 z)) C B a len cap) := drawn_put HD4.out _ _ hg hlt hB
    have HL5 : Hid ((rl.set k (z, rl[k].2)).length = n) := by show _ = _; rw [List.length_set]; exact HN.out
    generalize rl[k].1 = old at hc
    clear hD hz HDa HOa HLI HD3 HO3 HD4 HO4
    go_wp2
    go_ret
    exact ⟨_, rl.set k (z, rl[k].2), rfl, by rw [HL5.out]; omega, by rw [HL5.out]; exact HO5.out, HD5.out⟩
  · have h0' : (y == 0) = false := by simpa using h0
    clear h0
    by_cases h1 : (y == 1) = true
    · have HDa : Hid (∀ o, Drawn w (w3.alloc o) C B a len cap) := fun o => drawn_alloc HD3.out (by omega) o
      have HOa : Hid (∀ o, (w3.alloc o).ownsRow w.heap.size 36 2 (.slice (some ⟨g, 0, none⟩) n c) n (regsV rl)) := fun o => HO3.out.alloc o
      have HLI : Hid _ := laid_ints w3 [0, 64, 65, 9223372036854775807]
      go_wp2_with fail
      refine (pick26' C B a len cap [0, 64, 65, 9223372036854775807] 4 _ _ rfl (by omega) (by omega) _ (HDa.out _).1 hB (HDa.out _).2.1 (by omega) (by simp) HLI.out).mono ?_
      rintro e w4 ⟨z, rfl, hz, hD⟩
      have HD4 : Hid (Drawn w w4 C B a len cap) := drawn_trans (HDa.out _) hD
      have HO4 : Hid (w4.ownsRow w.heap.size 36 2 (.slice (some ⟨g, 0, none⟩) n c) n (regsV rl)) := own_gr (HOa.out _) hD.2.2 hlt
      have hc := (own_atR HO4.out hkl).2
      have hfz := HO4.out.frozenAt (k * 2 + 1)
      have HO5 : Hid ((w4.setCell ⟨g, k * 2 + 1, none⟩ (.int .i64 z)).ownsRow w.heap.size 36 2 (.slice (some ⟨g, 0, none⟩) n c) n (regsV (rl.set k (rl[k].1, z)))) := by
        have := (HO4.out.stored (k * 2 + 1) (.int .i64 z)).1
        rw [regsV_set1 rl k hkl] at this
        exact this
      have HD5 : Hid (Drawn w (w4.setCell ⟨g, k * 2 + 1, none⟩ (.int .i64 z)) C B a len cap) := drawn_put HD4.out _ _ hg hlt hB
      have HL5 : Hid ((rl.set k (rl[k].1, z)).length = n) := by show _ = _; rw [List.length_set]; exact HN.out
      generalize rl[k].2 = old at hc
      clear hD hz HDa HOa HLI HD3 HO3 HD4 HO4
      go_wp2
      go_ret
      exact ⟨_, rl.set k (rl[k].1, z), rfl, by rw [HL5.out]; omega, by rw [HL5.out]; exact HO5.out, HD5.out⟩
    · have h1' : (y == 1) = false := by simpa using h1
      clear h1
      by_cases h2 : (y == 2) = true
      · have hc := own_atR HO3.out hkl
        obtain ⟨f, hf⟩ : ∃ f, rl[k].1 = f := ⟨_, rfl⟩
        obtain ⟨s, hs⟩ : ∃ s, rl[k].2 = s := ⟨_, rfl⟩
        rw [hf, hs] at hc
        clear hf hs
        have hown := HO3.out.alloc (.cells #[.int .i64 f, .int .i64 s] 36)
        go_wp2_with (at_builtin; refine wpList_append_own _ rfl _ _ 96 rfl w.heap.size 36 i0 (.agg #[.int .i64 0, .int .i64 0]) 2 16 Try.underlying96 hi hz0 hz1 hz2 rfl (by decide) _ _ _ rfl hown ⟨w3.heap.size, 0, none⟩ 1 1 [.int .i64 f, .int .i64 s] rfl rfl ?c1 ?c2 ?c3 ?c4 ?c5 ?_)
        case c1 => exact two_cellR _ _ _ _ rfl
        case c2 => intro u hu; simp at hu; rcases hu with rfl | rfl <;> rfl
        case c3 => unfold maxLen; omega
        case c4 => omega
        case c5 => simp; omega
        intro v' w5 hown5 hgrow _
        have HD5 : Hid (Drawn w w5 C B a len cap) := drawn_grown (drawn_alloc HD3.out (by omega) _) hgrow (own_ge HO3.out) hlt (by omega)
        obtain ⟨q', c', hv⟩ := own_shape hown5
        subst hv
        have HL5 : Hid ((rl ++ [(f, s)]).length = n + 1) := by show _ = _; simp; exact HN.out
        have HO5 : Hid (w5.ownsRow w.heap.size 36 2 (.slice q' (n + 1) c') (n + 1) (regsV (rl ++ [(f, s)]))) := by
          rw [regsV_append]
          exact hown5
        clear hown hown5 hgrow HD3 HO3
        go_wp2
        go_ret
        exact ⟨_, rl ++ [(f, s)], rfl, by rw [HL5.out]; omega, by rw [HL5.out]; exact HO5.out, HD5.out⟩
      · have h2' : (y == 2) = false := by simpa using h2
        clear h2
        by_cases h3 : (y == 3) = true
        · have HO5 : Hid (World.ownsRow _ _ _ _ _ _ _) := own_emptyR w3 w.heap.size s3
          have HD5 : Hid (Drawn w (w3.alloc (.cells #[] 36)) C B a len cap) := drawn_alloc HD3.out (by omega) _
          clear HD3 HO3
          go_wp2
          go_ret
          exact ⟨_, [], rfl, by simp, HO5.out, HD5.out⟩
        · have h3' : (y == 3) = false := by simpa using h3
          clear h3
          go_wp2
          go_ret
          exact ⟨_, rl, rfl, by rw [HN.out]; omega, by rw [HN.out]; exact HO3.out, HD3.out⟩

theorem onceR (C B : Nat) (a : Option Addr) (len cap : Nat) (n : Int) (h0 : 0 < n) (h1 : n ≤ 256) (w : World) (hC : Cur w C a len cap) (hB : B ≤ C) (hcode : CodeOk w B a len) :
    Calls Try.prog 49 #[.pointer (some ⟨C, 0, none⟩), .int .i64 n] w fun e w' => ∃ b : Bool, e = .returned (.bool b) ∧ Drawn w w' C B a len cap := by
  have HCu : Hid (Cur w C a len cap) := hC
  have HCo : Hid (CodeOk w B a len) := hcode
  clear hC hcode
  go_enter Try.func49, Try.ntmps49
  go_wp2_with fail
  refine (below28 C B a len cap n h0 (by omega) _ HCu.out hB HCo.out).mono ?_
  rintro e w1 ⟨x, rfl, x0, x1, hD⟩
  have HD : Hid (Drawn w w1 C B a len cap) := hD
  clear hD HCu HCo
  go_wp2
  go_ret
  exact ⟨_, rfl, HD.out⟩

set_option maxRecDepth 100000 in
set_option maxHeartbeats 1000000 in
theorem regionR (C B : Nat) (a : Option Addr) (len cap : Nat) (w : World) (hC : Cur w C a len cap) (hB : B ≤ C) (hcode : CodeOk w B a len) :
    Calls Try.prog 44 #[.pointer (some ⟨C, 0, none⟩)] w fun e w' => ∃ f s : Int, e = .returned (.agg #[.int .i64 f, .int .i64 s]) ∧ Drawn w w' C B a len cap := by
  have hlt := cur_lt hC
  have HD0 : Hid (Drawn w (w.alloc (.cells #[.int .i64 0, .int .i64 0] 36)) C B a len cap) := drawn_alloc ⟨hC, hcode, World.grownBy.refl _ _⟩ (by omega) _
  have HZ0 : Hid ((w.alloc (.cells #[.int .i64 0, .int .i64 0] 36)).heap[w.heap.size]? = some (.cells #[.int .i64 0, .int .i64 0] 36)) := heap_new w _
  clear hC hcode
  go_enter Try.func44, Try.ntmps44
  go_wp2_with fail
  refine (anyR C B a len cap _ HD0.out.1 hB HD0.out.2.1).mono ?_
  rintro e w1 ⟨v, rl, rfl, h5, hown, hD⟩
  obtain ⟨q, c, hv, hnc, _, hrd⟩ := own_rdR hown
  subst hv
  obtain ⟨n, HN⟩ : ∃ n, Hid (rl.length = n) := ⟨_, rfl⟩
  rw [HN.out] at h5 ⊢
  have HO : Hid (w1.ownsRow _ 36 2 (.slice q rl.length c) rl.length (regsV rl)) := hown
  have HD1 : Hid (Drawn w w1 C B a len cap) := drawn_trans HD0.out hD
  have HZ1 : Hid (w1.heap[w.heap.size]? = _) := row_drawn HZ0.out hD.2.2 (by omega)
  clear hown hrd hD HD0 HZ0
  by_cases h0 : n = 0
  · subst h0
    have kz := row2_cells HZ1.out
    have hb : (((0 : Nat) : Int) == 0) = true := by decide
    go_wp2
    refine bodyPost_ret (v := .agg #[.int .i64 0, .int .i64 0]) (by simp [results, Try.results44, go_sem, kz]) rfl ⟨0, 0, rfl, ?_⟩
    exact drawn_put (drawn_put HD1.out 0 _ (Nat.le_refl _) hlt hB) 1 _ (Nat.le_refl _) hlt hB
  · have hb : ((n : Int) == 0) = false := by simp; omega
    have hb2 : ¬ (n : Int) = 0 := by omega
    go_wp2_with fail
    refine (below28 C B a len cap n (by omega) (by omega) _ HD1.out.1 hB HD1.out.2.1).mono ?_
    rintro e w2 ⟨k0, rfl, k0a, k0b, hD⟩
    obtain ⟨k, rfl⟩ := Int.eq_ofNat_of_zero_le k0a
    have hkl : k < rl.length := by have := HN.out; omega
    have hD2 := drawn_trans HD1.out hD
    obtain ⟨g, rfl, hg⟩ := own_addr HO.out (by omega)
    have hc := own_atR (own_gr HO.out hD.2.2 (by simp; omega)) hkl
    have HD2 : Hid (Drawn w w2 C B a len cap) := hD2
    have kz := row2_cells (row_drawn HZ1.out hD.2.2 (by omega))
    generalize rl[k].1 = f at hc
    generalize rl[k].2 = s at hc
    clear hD hD2 HD1 HZ1
    go_wp2
    refine bodyPost_ret (v := .agg #[.int .i64 f, .int .i64 s]) (by simp [results, Try.results44, go_sem, kz]) rfl ⟨f, s, rfl, ?_⟩
    exact drawn_put (drawn_put HD2.out 0 _ (Nat.le_refl _) hlt hB) 1 _ (Nat.le_refl _) hlt hB
end Go.Proofs.Ythnocibkgpofnaa.D

namespace Go.Proofs.Ythnocibkgpofnaa.D
open Go.RowKit Go.PlainAid
set_option linter.unusedVariables false

/-- what stands while an arena is drawn: the answer's box, the arena's, its cells -/
def DA (w W : World) (C B : Nat) (a : Option Addr) (len cap : Nat) (ba g : Nat) : Prop := Drawn w W C B a len cap ∧ W.heap[w.heap.size]? = some (.cells #[.slice none 0 0] 34) ∧ W.heap[ba]? = some (.cells #[.slice (some ⟨g, 0, none⟩) 64 64] 34) ∧ (∃ L : List Int, L.length = 64 ∧ RowAt W g L) ∧ C < w.heap.size ∧ B ≤ C ∧ w.heap.size < g ∧ w.heap.size < ba ∧ g ≠ ba
theorem DA.on {w W W' : World} {C B : Nat} {a : Option Addr} {len cap ba g : Nat} (h : DA w W C B a len cap ba g) (hD : Drawn W W' C B a len cap) : DA w W' C B a len cap ba g := by
  obtain ⟨h1, h2, h3, ⟨L, hL, hr⟩, h5, h6, h7, h8, h9⟩ := h
  exact ⟨drawn_trans h1 hD, row_drawn h2 hD.2.2 (by omega), row_drawn h3 hD.2.2 (by omega), ⟨L, hL, row_drawn hr hD.2.2 (by omega)⟩, h5, h6, h7, h8, h9⟩
theorem DA.drew {w W : World} {C B : Nat} {a : Option Addr} {len cap ba g : Nat} (h : DA w W C B a len cap ba g) : DA w W.drew C B a len cap ba g := ⟨drawn_drew h.1, h.2⟩
theorem DA.put {w W : World} {C B : Nat} {a : Option Addr} {len cap ba g : Nat} (h : DA w W C B a len cap ba g) (j : Nat) (x : Int) : DA w (W.setCell ⟨g, j, none⟩ (.int .i64 x)) C B a len cap ba g := by
  obtain ⟨h1, h2, h3, ⟨L, hL, hr⟩, h5, h6, h7, h8, h9⟩ := h
  exact ⟨drawn_put h1 _ _ (by omega) h5 h6, set_other h2 (by omega), set_other h3 (fun e => h9 e.symm), ⟨L.set j x, by rw [List.length_set]; exact hL, hr.set j x⟩, h5, h6, h7, h8, h9⟩
theorem DA.cell {w W : World} {C B : Nat} {a : Option Addr} {len cap ba g : Nat} (h : DA w W C B a len cap ba g) {j : Nat} (hj : j < 64) : ∃ x : Int, W.cell? ⟨g, j, none⟩ = some (.int .i64 x) ∧ W.frozen? ⟨g, j, none⟩ = false := by
  obtain ⟨L, hL, hr⟩ := h.2.2.2.1
  exact ⟨_, hr.cell j (by omega), hr.free j⟩
theorem da_conj {w W : World} {C B : Nat} {a : Option Addr} {len cap ba g : Nat} (h : DA w W C B a len cap ba g) : W.cell? ⟨ba, 0, none⟩ = some (.slice (some ⟨g, 0, none⟩) 64 64) ∧ DA w W C B a len cap ba g := ⟨(row1_cells h.2.2.1).1, h⟩

theorem DA.cut {w W : World} {C B : Nat} {a : Option Addr} {len cap ba g : Nat} (h : DA w W C B a len cap ba g) (v : Value) : Drawn w (W.setCell ⟨ba, 0, none⟩ v) C B a len cap ∧ (W.setCell ⟨ba, 0, none⟩ v).heap[w.heap.size]? = some (.cells #[.slice none 0 0] 34) ∧ (W.setCell ⟨ba, 0, none⟩ v).heap[ba]? = some (.cells #[v] 34) ∧ ∃ L : List Int, L.length = 64 ∧ RowAt (W.setCell ⟨ba, 0, none⟩ v) g L := by
  obtain ⟨h1, h2, h3, ⟨L, hL, hr⟩, h5, h6, h7, h8, h9⟩ := h
  exact ⟨drawn_put h1 _ _ (by omega) h5 h6, set_other h2 (by omega), set1_row h3, L, hL, set_other hr h9⟩
theorem rd_take {w : World} {g : Nat} {L : List Int} (h : RowAt w g L) (m : Nat) : Rd w (some ⟨g, 0, none⟩) (L.take m) := fun _ => ⟨g, 0, rfl, fun j hj => by
  have hj' : j < L.length := by simp at hj; omega
  rw [Nat.zero_add, h.cell j hj']
  simp⟩

theorem newS (w : World) : Calls Try.prog 64 #[] w fun e w' => ∃ g, e = .returned (.agg #[.slice (some ⟨g, 0, none⟩) 64 64]) ∧ w.heap.size ≤ g ∧ RowAt w' g z64 ∧ Below w.heap.size w w' := by
  have hmk := make64
  go_enter Try.func64, Try.ntmps64
  go_wp2
  refine bodyPost_ret (v := .agg #[.slice (some ⟨w.heap.size + 1, 0, none⟩) 64 64]) (by simp [results, Try.results64, go_sem]) rfl ⟨w.heap.size + 1, rfl, by omega, row_alloc2 w _ z64, ?_⟩
  exact ((Below.refl _ _).alloc (Nat.le_refl _) _).alloc (by simp) _
set_option maxRecDepth 100000 in
set_option maxHeartbeats 2000000 in
theorem arenaR (C B : Nat) (a : Option Addr) (len cap : Nat) (w : World) (hC : Cur w C a len cap) (hB : B ≤ C) (hcode : CodeOk w B a len) :
    Calls Try.prog 43 #[.pointer (some ⟨C, 0, none⟩)] w fun e w' => ∃ (g n : Nat) (l : List Int), e = .returned (.agg #[.slice (some ⟨g, 0, none⟩) n 64]) ∧ l.length = n ∧ n ≤ 64 ∧ Rd w' (some ⟨g, 0, none⟩) l ∧ w.heap.size ≤ g ∧ Drawn w w' C B a len cap := by
  have hlt := cur_lt hC
  have HD0 : Hid (Drawn w (w.alloc (.cells #[.slice none 0 0] 34)) C B a len cap) := drawn_alloc ⟨hC, hcode, World.grownBy.refl _ _⟩ (by omega) _
  have HZ0 : Hid ((w.alloc (.cells #[.slice none 0 0] 34)).heap[w.heap.size]? = some (.cells #[.slice none 0 0] 34)) := heap_new w _
  clear hC hcode
  go_enter Try.func43, Try.ntmps43
  go_wp2_with fail
  refine (newS _).mono ?_
  rintro e w1 ⟨g, rfl, hg, hrow, hb1⟩
  have hg' : w.heap.size < g := by simp at hg; omega
  have s1 := hb1.size
  have lg := hrow.lt
  have HA : Hid (DA w (w1.alloc (.cells #[.slice (some ⟨g, 0, none⟩) 64 64] 34)) C B a len cap w1.heap.size g) := by
    have hb2 : Below (w.alloc (.cells #[.slice none 0 0] 34)).heap.size (w.alloc (.cells #[.slice none 0 0] 34)) (w1.alloc (.cells #[.slice (some ⟨g, 0, none⟩) 64 64] 34)) := hb1.alloc hb1.size _
    have hd : Drawn (w.alloc (.cells #[.slice none 0 0] 34)) (w1.alloc (.cells #[.slice (some ⟨g, 0, none⟩) 64 64] 34)) C B a len cap := by
      obtain ⟨⟨i, x, hi, hc⟩, hcode, _⟩ := HD0.out
      refine ⟨⟨i, x, hi, row_after hc hb2 (row_lt hc)⟩, code_below hcode (hb2.mono (by simp; omega)), ⟨hb2.os, hb2.tape, hb2.output, hb2.size, fun k hk _ => hb2.block k hk⟩⟩
    exact ⟨drawn_trans HD0.out hd, row_after HZ0.out hb2 (row_lt HZ0.out), heap_new w1 _, ⟨z64, by simp [z64], (Below.heap_alloc _ _ _ lg).trans hrow⟩, hlt, hB, hg', by simp at s1; omega, by omega⟩
  clear hrow hb1 HD0 HZ0
  go_wp2
  go_loopg [4] 10 (fun gk iv wr => ∃ i : Nat, i + gk = 10 ∧ iv = .int .i64 i ∧ Hid (DA w wr C B a len cap w1.heap.size g))
  case atStart => exact ⟨0, by omega, rfl, HA⟩
  case round =>
    clear HA
    obtain ⟨i, hi, rfl, HA⟩ := hrel
    by_cases hlt2 : i < 10
    · go_wp2_with fail
      go_region_held3 (fun w' => w'.cell? ⟨w1.heap.size, 0, none⟩ = some (.slice (some ⟨g, 0, none⟩) 64 64) ∧ DA w w' C B a len cap w1.heap.size g) (first | (exact da_conj HAb.out) | (exact da_conj HAa.out) | (exact da_conj HA.out.drew) | (exact da_conj (HAb.out.put _ _))) (first | (go_at_call 40; (fail_if_success (have hq := HAa)); refine (below28 C B a len cap 64 (by omega) (by omega) _ ?_ hB ?_).mono ?_; (exact (And.right (by assumption : _ ∧ DA w _ C B a len cap w1.heap.size g)).1.1); (exact (And.right (by assumption : _ ∧ DA w _ C B a len cap w1.heap.size g)).1.2.1); rintro e w2 ⟨j0, rfl, j0a, j0b, hDa⟩; obtain ⟨j, rfl⟩ := Int.eq_ofNat_of_zero_le j0a; have HAa : Hid (DA w w2 C B a len cap w1.heap.size g) := (And.right (by assumption : _ ∧ DA w _ C B a len cap w1.heap.size g)).on hDa) | (go_at_call 40; refine (below28 C B a len cap 65536 (by omega) (by omega) _ HAa.out.1.1 hB HAa.out.1.2.1).mono ?_; rintro e w3 ⟨y, rfl, ya, yb, hDb⟩; have HAb : Hid (DA w w3 C B a len cap w1.heap.size g) := HAa.out.on hDb; obtain ⟨x, hx1, hx2⟩ := HAb.out.cell (show j < 64 by omega)))
      rename_i HH
      have HA2 : Hid (DA w _ C B a len cap w1.heap.size g) := HH.2
      clear HH hDa hDb HAa HAb hx1 hx2 HA
      go_wp2
      go_roundg (gk - 1)
      case measure => omega
      case rel => exact ⟨i + 1, by omega, by go_num, HA2⟩
    · go_wp2_with fail
      refine (onceR C B a len cap 12 (by omega) (by omega) _ HA.out.1.1 hB HA.out.1.2.1).mono ?_
      rintro e w4 ⟨b, rfl, hD⟩
      have HA4 : Hid (DA w w4 C B a len cap w1.heap.size g) := HA.out.on hD
      clear hD HA
      have kz := row1_cells HA4.out.2.1
      have ka := row1_cells HA4.out.2.2.1
      cases b
      · obtain ⟨L, hL, hr⟩ := HA4.out.2.2.2.1
        have HR : Hid (RowAt w4 g L) := hr
        have HL : Hid (L.length = 64) := hL
        clear hr hL
        go_wp2
        refine bodyPost_ret (v := .agg #[.slice (some ⟨g, 0, none⟩) 64 64]) (by simp [results, Try.results43, go_sem, kz]) rfl ⟨g, 64, L, rfl, HL.out, by omega, RowAt.rd (set_other HR.out (by omega)), by omega, drawn_put HA4.out.1 _ _ (Nat.le_refl _) hlt hB⟩
      · go_upto_region 7 with fail
        go_cut [] (fun wc => ∃ m : Nat, m ≤ 64 ∧ Hid (Drawn w wc C B a len cap) ∧ Hid (wc.heap[w.heap.size]? = some (.cells #[.slice none 0 0] 34)) ∧ Hid (wc.heap[w1.heap.size]? = some (.cells #[.slice (some ⟨g, 0, none⟩) m 64] 34)) ∧ Hid (∃ L : List Int, L.length = 64 ∧ RowAt wc g L))
        case first =>
          go_region_with (go_at_call 40; refine (below28 C B a len cap 60 (by omega) (by omega) _ HA4.out.drew.1.1 hB HA4.out.drew.1.2.1).mono ?_; rintro e w5 ⟨m0, rfl, m0a, m0b, hD⟩; obtain ⟨m, rfl⟩ := Int.eq_ofNat_of_zero_le m0a; have HA5 : Hid (DA w w5 C B a len cap w1.heap.size g) := HA4.out.drew.on hD; have k5 := row1_cells HA5.out.2.2.1)
          all_goals (try go_wp2_with fail)
          all_goals go_meet
          all_goals exact ⟨m, by omega, (HA5.out.cut _).1, (HA5.out.cut _).2.1, (HA5.out.cut _).2.2.1, (HA5.out.cut _).2.2.2⟩
        case rest =>
          rename World => wE
          obtain ⟨m, hm, HD, HZ, HBa, HLx⟩ := hcut
          obtain ⟨L, hL, hr⟩ := HLx.out
          have HR : Hid (RowAt wE g L) := hr
          have HL : Hid ((L.take m).length = m) := by show _ = _; simp; omega
          clear hr hL HLx HA4 kz ka
          have kz := row1_cells HZ.out
          have ka := row1_cells HBa.out
          go_wp2
          refine bodyPost_ret (v := .agg #[.slice (some ⟨g, 0, none⟩) m 64]) (by simp [results, Try.results43, go_sem, kz]) rfl ⟨g, m, L.take m, rfl, HL.out, hm, rd_take (set_other HR.out (by omega)) m, by omega, drawn_put HD.out _ _ (Nat.le_refl _) hlt hB⟩
end Go.Proofs.Ythnocibkgpofnaa.D
