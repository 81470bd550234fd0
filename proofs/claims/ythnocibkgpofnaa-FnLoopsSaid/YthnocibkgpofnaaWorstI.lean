/-
  WorstCost of the program.
-/
import Derived.Test.YthnocibkgpofnaaWorst
import Derived.Test.YthnocibkgpofnaaInts
namespace Go.Proofs.Ythnocibkgpofnaa.I
open Go.RowKit Go.PlainAid
set_option linter.unusedVariables false

/-- a table of numbers in a block -/
def Tab (w : World) (g : Nat) (l : List Int) : Prop := w.heap[g]? = some (.cells (intsV l).toArray 76 (0, 0))
theorem Tab.lt {w : World} {g : Nat} {l : List Int} (h : Tab w g l) : g < w.heap.size := row_lt h
theorem Tab.on {w w' : World} {g : Nat} {l : List Int} (h : Tab w g l) (hb : Below w.heap.size w w') : Tab w' g l := row_after h hb (row_lt h)
theorem Tab.cell {w : World} {g : Nat} {l : List Int} (h : Tab w g l) (j : Nat) (hj : j < l.length) : w.cell? ⟨g, j, none⟩ = some (.int .i64 l[j]) := by
  simp [World.cell?, show w.heap[g]? = _ from h, intsV, hj]
theorem Tab.free {w : World} {g : Nat} {l : List Int} (h : Tab w g l) (j : Nat) : w.frozen? ⟨g, j, none⟩ = false := frozen_of_row w g j _ _ h
theorem Tab.set {w : World} {g : Nat} {l : List Int} (h : Tab w g l) (j : Nat) (x : Int) : Tab (w.setCell ⟨g, j, none⟩ (.int .i64 x)) g (l.set j x) := by
  unfold Tab at h ⊢
  rw [heap_setCell_same w g j _ 76 (.int .i64 x) h, ← intsV_set]
  simp
/-- from place i on the table tells what the dearest way costs -/
def TabTo (rl : List (Int × Int)) (l : List Int) (i : Nat) : Prop := l.length = 61 ∧ ∀ m (h : m < l.length), i ≤ m → l[m] = wst rl m
theorem tab_start (rl : List (Int × Int)) (n : Nat) (hl : rl.length = n) : TabTo rl (List.replicate 61 0) n := by
  refine ⟨List.length_replicate, fun m h hm => ?_⟩
  rw [wst_end (by omega), List.getElem_replicate]
theorem tab_step {rl : List (Int × Int)} {l : List Int} {i : Nat} (h : TabTo rl l (i + 1)) (V : Int) (hV : V = wst rl i) : TabTo rl (l.set i V) i := by
  refine ⟨by rw [List.length_set]; exact h.1, fun m hm hi => ?_⟩
  rw [List.getElem_set]
  by_cases e : i = m
  · rw [if_pos e, hV, e]
  · rw [if_neg e]; exact h.2 m _ (by omega)
theorem far_set (w : World) (k i : Nat) (v : Value) (g o : Nat) (h : g ≠ k) : (w.setCell ⟨k, i, none⟩ v).cell? ⟨g, o, none⟩ = w.cell? ⟨g, o, none⟩ :=
  World.cell?_setCell_other _ _ _ _ (fun e => h (congrArg Addr.block e).symm)
theorem Below.put {B k i : Nat} {w W : World} (h : Below B w W) (v : Value) (hk : B ≤ k) : Below B w (W.setCell ⟨k, i, none⟩ v) :=
  h.setCell (p := ⟨k, i, none⟩) hk v

set_option maxRecDepth 100000 in
set_option maxHeartbeats 2000000 in
theorem worstI (a : Option Addr) (rl : List (Int × Int)) (n cap : Nat) (b : Bool) (R : Int) (hl : rl.length = n) (hn : n ≤ 9223372036854775807) (hb : b = true ↔ FwdR rl) (hR : (if b then wst rl 0 else 0) = R) (w : World) (hr : RdR w a rl) :
    Calls Try.prog 18 #[.slice a n cap] w fun e w' => e = .returned (.tuple #[.int .i64 R, .bool b]) ∧ Below w.heap.size w w' := by
  have HB : Hid (b = true ↔ FwdR rl) := hb
  have HL : Hid (rl.length = n) := hl
  have HR : Hid (RdR w a rl) := hr
  have HRR : Hid ((if b then wst rl 0 else 0) = R) := hR
  clear hb hl hr hR
  go_enter Try.func18, Try.ntmps18
  go_wp2_with fail
  refine (forwardI a rl n cap b HL.out hn HB.out _ HR.out).mono ?_
  rintro e w1 ⟨rfl, hb1⟩
  have HW1 : Hid (Below w.heap.size w w1) := hb1
  clear hb1
  cases b
  · go_wp2
    refine bodyPost_ret (v := .tuple #[.int .i64 0, .bool false]) (by simp [results, Try.results18, go_sem]) rfl ⟨by rw [← HRR.out]; rfl, HW1.out⟩
  · have HF : Hid (FwdR rl) := HB.out.1 rfl
    have h60 : n ≤ 60 := by have := HF.out.1.1; have := HL.out; omega
    clear HB
    go_wp2
    go_loopg [12] n (fun gk i wr => ∃ (j : Nat) (l : List Int), j + gk = n ∧ i = .int .i64 j ∧ Hid (Tab wr w1.heap.size l) ∧ Hid (TabTo rl l (n - j)) ∧ Hid (Below w.heap.size w wr))
    case atStart => exact ⟨0, List.replicate 61 0, by omega, rfl, heap_new w1 _, tab_start rl n HL.out, HW1.out.alloc HW1.out.size _⟩
    case round =>
      obtain ⟨j, l, hj, rfl, HT, HI, HW⟩ := hrel
      by_cases hlt : j < n
      · obtain ⟨i, hi⟩ : ∃ i : Nat, n - 1 - j = i := ⟨_, rfl⟩
        have hil : i < rl.length := by have := HL.out; omega
        have hin : (n : Int) - 1 - (j : Int) = (i : Int) := by omega
        obtain ⟨g, off, rfl, hc⟩ := HR.out (by omega)
        have hgl : g < w.heap.size := World.block_lt_of_cell? w ⟨g, off + 0 * 2, none⟩ (hc 0 (by omega)).1
        have hne : g ≠ w1.heap.size := by have := HW1.out.size; omega
        have hkw : w.heap.size ≤ w1.heap.size := HW1.out.size
        have c0 := hc i hil
        have c1 := (HW.out.cell (p := ⟨g, off + i * 2, none⟩) hgl).trans c0.1
        have c2 := (HW.out.cell (p := ⟨g, off + i * 2 + 1, none⟩) hgl).trans c0.2
        clear c0 hc
        obtain ⟨f, hf⟩ : ∃ f, rl[i].1 = f := ⟨_, rfl⟩
        obtain ⟨s, hs⟩ : ∃ s, rl[i].2 = s := ⟨_, rfl⟩
        have hs0 : 0 ≤ s := by rw [← hs]; exact (HF.out.1.2 i hil).2.1
        rw [hf] at c1
        rw [hs] at c2
        have HFS : Hid (rl[i].1 = f ∧ rl[i].2 = s) := ⟨hf, hs⟩
        obtain ⟨m, hm⟩ : ∃ m : Nat, (m : Int) = min s 60 := ⟨(min s 60).toNat, by omega⟩
        have HM : Hid ((m : Int) = min s 60) := hm
        have hm61 : m < l.length := by have := HI.out.1; omega
        have hi61 : i + 1 < l.length := by have := HI.out.1; omega
        have hX : l[i + 1] = wst rl (i + 1) := HI.out.2 (i + 1) hi61 (by omega)
        have hY : goes f → l[m] = wst rl s.toNat := fun hg => by
          have h1 : (i : Int) < s := by have := HF.out.2 i hil (by rw [hf]; exact hg); rw [hs] at this; exact this
          rw [HI.out.2 m hm61 (by omega)]
          by_cases hsm : s ≤ 60
          · rw [show m = s.toNat by omega]
          · rw [wst_end (by have := HL.out; omega), wst_end (by have := HL.out; omega)]
        obtain ⟨R', hR'⟩ : ∃ R', behN f (wst rl (i + 1)) (wst rl s.toNat) = R' := ⟨_, rfl⟩
        obtain ⟨V, hV⟩ : ∃ V, wst rl i = V := ⟨_, rfl⟩
        have hVe : costN f + R' = V := by
          rw [← hV, wst_at HF.out hil (wst rl s.toNat) (fun _ => by rw [hs]), hf, hR']
        have hVb := wst_bd rl 60 i (by have := HL.out; omega)
        have hwr : IntKind.i64.wrap (costN f + R') = V := by rw [hVe]; exact wrap_in (by omega) (by omega)
        have HR' : Hid (behN f (wst rl (i + 1)) (wst rl s.toNat) = R') := hR'
        have hwd : wr.drew.cell? ⟨g, off + i * 2, none⟩ = some (.int .i64 f) ∧ wr.drew.cell? ⟨g, off + i * 2 + 1, none⟩ = some (.int .i64 s) := ⟨c1, c2⟩
        have HD1 : Hid (wr.drew.cell? ⟨w1.heap.size, i + 1, none⟩ = some (.int .i64 (wst rl (i + 1)))) := by rw [← hX]; exact HT.out.cell (i + 1) hi61
        have HD2 : Hid (∃ Y', wr.drew.cell? ⟨w1.heap.size, m, none⟩ = some (.int .i64 Y') ∧ (goes f → Y' = wst rl s.toNat)) := ⟨l[m], HT.out.cell m hm61, hY⟩
        have HTd : Hid (Tab wr.drew w1.heap.size l) := HT.out
        have HWd : Hid (Below w.heap.size w wr.drew) := HW.out.drew
        have HI' : Hid (TabTo rl (l.set i V) (n - (j + 1))) := by
          have e1 : n - j = i + 1 := by omega
          have e2 : n - (j + 1) = i := by omega
          have h1 := HI.out; rw [e1] at h1; rw [e2]
          exact tab_step h1 V hV.symm
        have HIl : Hid (i < l.length) := by show i < l.length; omega
        clear hX hY hV hVe hVb hf hs hm hR' HI HT HW hm61 hi61
        have hi0 : (0 : Int) ≤ (i : Int) := by omega
        have hi1 : (i : Int) < (n : Int) := by omega
        have hi2 : (i : Int) < 61 := by omega
        have hgd : g < wr.drew.heap.size := by have h1 := HTd.out.lt; exact Nat.lt_trans (Nat.lt_of_lt_of_le hgl hkw) h1
        go_wp2_with fail
        go_region_held3 (fun w' => w'.cell? ⟨g, off + i * 2, none⟩ = some (.int .i64 f) ∧ w'.cell? ⟨g, off + i * 2 + 1, none⟩ = some (.int .i64 s)) (first | (exact hwd) | (exact hS7) | (exact hS8)) (first | (go_at_call 33; refine (costI f _).mono ?_; rintro e wc ⟨rfl, rfl⟩) | (go_at_call 41; refine (behindI w1.heap.size f s i m _ _ R' (by omega) HM.out HR'.out _ HD1.out HD2.out).mono ?_; rintro e w7 ⟨rfl, hb7⟩; have HT7 : Hid (Tab w7 w1.heap.size l) := HTd.out.on hb7; have kf := HT7.out.free i; have kc := HT7.out.cell i HIl.out; have hS7 : w7.cell? ⟨g, off + i * 2, none⟩ = some (.int .i64 f) ∧ w7.cell? ⟨g, off + i * 2 + 1, none⟩ = some (.int .i64 s) := ⟨(hb7.cell (p := ⟨g, off + i * 2, none⟩) hgd).trans hwd.1, (hb7.cell (p := ⟨g, off + i * 2 + 1, none⟩) hgd).trans hwd.2⟩; have hS8 : (w7.setCell ⟨w1.heap.size, i, none⟩ (.int .i64 V)).cell? ⟨g, off + i * 2, none⟩ = some (.int .i64 f) ∧ (w7.setCell ⟨w1.heap.size, i, none⟩ (.int .i64 V)).cell? ⟨g, off + i * 2 + 1, none⟩ = some (.int .i64 s) := ⟨(far_set _ _ _ _ _ _ hne).trans hS7.1, (far_set _ _ _ _ _ _ hne).trans hS7.2⟩))
        have HT8 : Hid (Tab (w7.setCell ⟨w1.heap.size, i, none⟩ (.int .i64 V)) w1.heap.size (l.set i V)) := HT7.out.set i V
        have HW8 : Hid (Below w.heap.size w (w7.setCell ⟨w1.heap.size, i, none⟩ (.int .i64 V))) := Below.put (HWd.out.trans (hb7.mono HWd.out.size)) _ hkw
        rename_i HH
        clear HH hS8 hS7 kf kc HT7 hb7 HD1 HD2 HTd HWd hwd c1 c2
        go_wp2
        go_roundg (gk - 1)
        case measure => omega
        case rel => exact ⟨j + 1, l.set i V, by omega, by go_num, HT8, HI', HW8⟩
      · have hjn : n - j = 0 := by omega
        have h61 : 0 < l.length := by have := HI.out.1; omega
        have c0 : wr.cell? ⟨w1.heap.size, 0, none⟩ = some (.int .i64 R) := by
          rw [HT.out.cell 0 h61, HI.out.2 0 h61 (by omega)]; rw [← HRR.out]; rfl
        go_wp2
        refine bodyPost_ret (v := .tuple #[.int .i64 R, .bool true]) (by simp [results, Try.results18, go_sem]) rfl ⟨rfl, HW.out⟩
end Go.Proofs.Ythnocibkgpofnaa.I
