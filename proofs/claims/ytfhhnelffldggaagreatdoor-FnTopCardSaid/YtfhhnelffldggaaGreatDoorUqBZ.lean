/-
  WithinLimits, of the program, on lives: a range over the spans.
-/
import Derived.Test.YtfhhnelffldggaaGreatDoorUqBY
import Derived.Test.YtfhhnelffldggaaGreatDoorUqBO
import Derived.Test.YtfhhnelffldggaaGreatDoorUqAX
import Derived.Test.YtfhhnelffldggaaGreatDoorUqBM
import Derived.Test.YtfhhnelffldggaaGreatDoorUqAV
set_option maxRecDepth 100000
set_option maxHeartbeats 16000000
namespace Go.Proofs.YtfhhnelffldggaaGreatDoor
open Go.ChangeShapes Go.WideShapes Go.ChangeAt Go.RowKit Go.PlainAid Go.Shelf
set_option linter.unusedVariables false
set_option linter.unusedSimpArgs false
attribute [local go_sem] Oper.semAt_some
def spE (len j : Nat) : Nat := min (j + 10) len
def spV (g off len cap j : Nat) : Value := .slice (some ⟨g, off + j * 3, none⟩) (spE len j - j) (cap - j)
theorem spans1_in (F : Fence) (n : Nat) (h7 : F.fn 146) (hro : F.round = none) (hn : 1 ≤ n) (l Bs n₀ b off len cap : Nat) (hlc : len ≤ cap) (hl150 : len ≤ 150) (J Jx : List Nat → World → Prop)
  (hY : ∀ pre x W, J pre W → pre.length < len → YieldAt F (n - 1) Tryz.prog l #[spV b off len cap x] W fun e W' =>
   (e = .returned (.bool true) ∧ J (pre ++ [x]) W' ∧ Below n₀ W W') ∨ (e = .returned (.bool false) ∧ Jx (pre ++ [x]) W'))
  (W : World) (hBn : Bs < n₀) (hBs : W.cell? ⟨Bs, 0, none⟩ = some (.slice (some ⟨b, off, none⟩) len cap)) (h0 : J [] W) :
  CallsIn F n Tryz.prog 146 #[.func (.yield l) #[] #[], .pointer (some ⟨Bs, 0, none⟩)] W fun e W' => (∃ v, e = .returned v) ∧
   ((∃ ys, ys = List.range len ∧ J ys W') ∨ (∃ pre, (∃ k, k ≤ len ∧ pre = List.range k) ∧ Jx pre W')) := by
 refine callsIn_of_wp Tryz.func146 rfl h7 ?_ hro
 simp only [Tryz.ntmps146, List.size_toArray, List.length_cons, List.length_nil, Nat.reduceAdd, Nat.reduceSub, Array.replicate_succ, Array.replicate_zero, List.push_toArray, List.append_toArray, List.nil_append, List.cons_append]
 gi_wp2
 gi_loopw [6] (fun i wr => ∃ k : Nat, k ≤ len ∧ i = .int .i64 k ∧ J (List.range k) wr ∧ Below n₀ W wr)
  (fun i _ => len - (intOf i).toNat)
 case atStart => exact ⟨0, Nat.zero_le _, rfl, h0, Below.refl _ _⟩
 case round =>
  obtain ⟨k, hk, rfl, hJs, hnx⟩ := hrel
  have hBs' : wr.cell? ⟨Bs, 0, none⟩ = some (.slice (some ⟨b, off, none⟩) len cap) := (hnx.cell (p := ⟨Bs, 0, none⟩) hBn).trans hBs
  by_cases hlt : k < len
  ·
   obtain ⟨fn, tmps, assign, body, hy, hR⟩ := hY _ k wr hJs (by rw [List.length_range]; exact hlt)
   obtain ⟨m, hm⟩ : ∃ m, spE len k = m := ⟨_, rfl⟩
   have hmk : k < m ∧ m ≤ len := by rw [← hm]; unfold spE; omega
   have hmm : min ((k : Int) + 10) (len : Int) = (m : Int) := by rw [← hm]; unfold spE; omega
   have q0 : IntKind.i64.wrap ((k : Int) + 10) = (k : Int) + 10 := wrap_in (by omega) (by omega)
   unfold spV at hy
   rw [hm] at hy
   clear hm
   have HJ := hq hJs
   have HN := hq hnx
   clear hJs hnx hBs
   gi_wp2
   refine hR.mono ?_
   rintro e W3 (⟨rfl, hJ3, hk3⟩ | ⟨rfl, hJx3⟩)
   ·
    gi_wp2
    go_roundw
    case rel => exact ⟨k + 1, by omega, by simp, by rw [List.range_succ]; exact hJ3, HN.out.trans hk3⟩
    case measure => simp [intOf]; omega
   ·
    gi_wp2
    refine bodyPost_ret (results_none rfl _ _ _) rfl ?_
    exact ⟨⟨_, rfl⟩, .inr ⟨List.range (k + 1), ⟨k + 1, by omega, rfl⟩, by rw [List.range_succ]; exact hJx3⟩⟩
  ·
   obtain rfl : k = len := by omega
   gi_wp2
   go_end0
   exact ⟨⟨_, rfl⟩, .inl ⟨_, rfl, hJs⟩⟩
theorem spans1_nil_in (F : Fence) (n : Nat) (h7 : F.fn 146) (hro : F.round = none) (l Bs cap : Nat) (a : Option Addr) (J : List Nat → World → Prop) (W : World) (hBs : W.cell? ⟨Bs, 0, none⟩ = some (.slice a 0 cap)) (h0 : J [] W) :
  CallsIn F n Tryz.prog 146 #[.func (.yield l) #[] #[], .pointer (some ⟨Bs, 0, none⟩)] W fun e W' => (∃ v, e = .returned v) ∧ J [] W' := by
 refine callsIn_of_wp Tryz.func146 rfl h7 ?_ hro
 simp only [Tryz.ntmps146, List.size_toArray, List.length_cons, List.length_nil, Nat.reduceAdd, Nat.reduceSub, Array.replicate_succ, Array.replicate_zero, List.push_toArray, List.append_toArray, List.nil_append, List.cons_append]
 gi_wp2
 gi_loopw [6] (fun i wr => i = .int .i64 0 ∧ J [] wr) (fun _ _ => 0)
 case atStart => exact ⟨rfl, h0⟩
 case round =>
  obtain ⟨rfl, hJs⟩ := hrel
  gi_wp2
  go_end0
  exact ⟨⟨_, rfl⟩, hJs⟩
theorem spansOfI (a : Option Addr) (len cap : Nat) (w : World) :
  Calls Tryz.prog 86 #[.slice a len cap] w fun e w' => e = .returned (.func (.func 146) #[] #[.pointer (some ⟨w.heap.size, 0, none⟩)]) ∧ w' = w.alloc (.cells #[.slice a len cap] 35) := by
 go_enter Tryz.func86, Tryz.ntmps86
 go_wp2
 go_ret
 exact ⟨rfl, rfl⟩
def spW (a : Option Addr) (len cap j : Nat) : Value := match a with
 | some ⟨g, off, none⟩ => spV g off len cap j
 | _ => .slice none 0 0
theorem spans_stops (F : Fence) (n : Nat) (h7 : F.fn 146) (hro : F.round = none) (hn : 1 ≤ n) (Bs n₀ : Nat) (a : Option Addr) (len cap : Nat) (hlc : len ≤ cap) (hl150 : len ≤ 150) (w : World) (hBs : Bs < n₀) (hn₀ : n₀ ≤ w.heap.size)
  (hc : w.cell? ⟨Bs, 0, none⟩ = some (.slice a len cap)) (hI : 0 < len → ∃ g off, a = some ⟨g, off, none⟩) :
  SeqStopsK F n Tryz.prog 146 #[.pointer (some ⟨Bs, 0, none⟩)] (fun j : Nat => #[spW a len cap j]) (Below n₀) (fun ys => ys = List.range len) (fun pre => ∃ k, k ≤ len ∧ pre = List.range k) len w := fun l J Jx W hW _ _ hY h0 => by
 have hc' := (hW.cell (p := ⟨Bs, 0, none⟩) (Nat.lt_of_lt_of_le hBs hn₀)).trans hc
 by_cases hp : 0 < len
 ·
  obtain ⟨b, off, rfl⟩ := hI hp
  exact spans1_in F n h7 hro hn l Bs n₀ b off len cap hlc hl150 J Jx hY W hBs hc' h0
 ·
  obtain rfl : len = 0 := by omega
  exact (spans1_nil_in F n h7 hro l Bs cap a J W hc' h0).mono fun e W' ⟨he, hj⟩ => ⟨he, .inl ⟨_, rfl, hj⟩⟩
theorem mostI (a : Option Addr) (l : List Tk3) (n cap : Nat) (hl : l.length = n) (hn : n ≤ 150) (hP : ∀ x ∈ l, 0 ≤ x.1 ∧ x.1 ≤ 30) (hs : sumT l ≤ 30) (w : World) (hr : RdY w a l) :
  Calls Tryz.prog 87 #[.slice a n cap] w fun e w' => e = .returned (.bool true) ∧ Below w.heap.size w w' := by
 go_enter Tryz.func87, Tryz.ntmps87
 go_wp2_with fail
 refine (totalI a l n cap hl hn hP _ hr).mono ?_
 rintro e w2 ⟨rfl, hb2⟩
 have HB := hq hb2
 clear hb2
 generalize sumT l = S at *
 go_wp2
 go_ret
 exact ⟨by simp [hs], HB.out⟩
abbrev fnS (Bs : Nat) : Value := .func (.func 146) #[] #[.pointer (some ⟨Bs, 0, none⟩)]
abbrev fnM : Value := .func (.func 87) #[] #[]
def spL (l : List Tk3) (j : Nat) : List Tk3 := (l.drop j).take 10
theorem rdY_span {w : World} {g off : Nat} {l : List Tk3} (h : RdY w (some ⟨g, off, none⟩) l) {j : Nat} (hj : j < l.length) : RdY w (some ⟨g, off + j * 3, none⟩) (spL l j) := fun h0 => by
 obtain ⟨g', off', e, hc⟩ := h (by omega)
 cases e
 refine ⟨g, off + j * 3, rfl, fun i hi => ?_⟩
 have hi2 : j + i < l.length := by unfold spL at hi; simp at hi; omega
 have e1 : (spL l j)[i] = l[j + i] := by simp [spL]
 have := hc (j + i) hi2
 rw [e1, show off + j * 3 + i * 3 = off + (j + i) * 3 by omega]
 exact this
theorem spL_len (l : List Tk3) (j : Nat) (hj : j < l.length) : (spL l j).length = spE l.length j - j := by unfold spL spE; simp; omega
theorem spL_none {l : List Tk3} {j : Nat} (h : l.length ≤ j) : spL l j = [] := by unfold spL; rw [List.drop_eq_nil_of_le h]; rfl
theorem spW_ex (a : Option Addr) (l : List Tk3) (len cap : Nat) (hl : l.length = len) (hI : 0 < len → ∃ g off, a = some ⟨g, off, none⟩) (j : Nat) : ∃ a' n' c', spW a len cap j = .slice a' n' c' ∧ (spL l j).length = n' ∧ n' ≤ 10 ∧ ∀ W, RdY W a l → RdY W a' (spL l j) := by
 have h10 : (spL l j).length ≤ 10 := by unfold spL; simp; omega
 by_cases hj : j < len
 ·
  obtain ⟨g, off, rfl⟩ := hI (by omega)
  refine ⟨some ⟨g, off + j * 3, none⟩, (spL l j).length, cap - j, ?_, rfl, h10, fun W h => rdY_span h (by omega)⟩
  rw [spL_len l j (by omega), hl]
  rfl
 ·
  have e0 : spL l j = [] := spL_none (by omega)
  have e1 : spE len j - j = 0 := by unfold spE; omega
  rw [e0]
  have hex : ∃ a' c', spW a len cap j = .slice a' 0 c' := by
   unfold spW
   split
   · exact ⟨_, _, by unfold spV; rw [e1]⟩
   · exact ⟨_, _, rfl⟩
  obtain ⟨a', c', e2⟩ := hex
  exact ⟨a', 0, c', e2, rfl, by omega, fun W h h0 => by simp at h0⟩
theorem isSoM (n : Nat) (hn : 6 ≤ n) (a : Option Addr) (l : List Tk3) (len cap : Nat) (hl : l.length = len) (hlc : len ≤ cap) (hl150 : len ≤ 150) (hP : ∀ x ∈ l, 0 ≤ x.1 ∧ x.1 ≤ 30) (hS : ∀ j, sumT (spL l j) ≤ 30) (Bs : Nat) (w : World) (hBs : Bs < w.heap.size) (hc : w.cell? ⟨Bs, 0, none⟩ = some (.slice a len cap)) (hr : RdY w a l) :
  CallsIn Fence.wide n Tryz.prog 88 #[.agg #[fnS Bs, fnM]] w fun e W' => e = .returned (.bool true) ∧ Below w.heap.size w W' := by
 have h1 : 1 ≤ n := by omega
 refine callsIn_of_wp_marks Tryz.func88 rfl trivial ?_ rfl
 simp only [Tryz.ntmps88, List.size_toArray, List.length_cons, List.length_nil, Nat.reduceAdd, Nat.reduceSub, Array.replicate_succ, Array.replicate_zero, List.push_toArray, List.append_toArray, List.nil_append, List.cons_append]
 have HC := hq hc
 have HR := hq hr
 have HL := hq hl
 have HP := hq hP
 have HSP := hq hS
 have hI : 0 < len → ∃ g off, a = some ⟨g, off, none⟩ := fun h0 => by obtain ⟨g, off, e, _⟩ := hr (by omega); exact ⟨g, off, e⟩
 clear hc hr hl hP hS
 gi_wp2
 have hs0 : (w.alloc (.cells #[fnS Bs, fnM] 124)).heap.size = w.heap.size + 1 := by simp
 have hT0 : ((w.alloc (.cells #[fnS Bs, fnM] 124)).alloc (.cells #[.bool false] 4)).heap[w.heap.size]? = some (.cells #[fnS Bs, fnM] 124) := (Below.heap_alloc _ _ _ (row_lt (heap_new w _))).trans (heap_new w _)
 have bR := Boxed.new (w.alloc (.cells #[fnS Bs, fnM] 124)) 4 (.bool false)
 rw [hs0] at bR
 have hB0 : Below w.heap.size w ((w.alloc (.cells #[fnS Bs, fnM] 124)).alloc (.cells #[.bool false] 4)) := ((Below.refl _ w).alloc (Nat.le_refl _) _).alloc (by simp) _
 have hsz : ((w.alloc (.cells #[fnS Bs, fnM] 124)).alloc (.cells #[.bool false] 4)).heap.size = w.heap.size + 2 := by simp
 obtain ⟨W0, hW0⟩ : ∃ W0, ((w.alloc (.cells #[fnS Bs, fnM] 124)).alloc (.cells #[.bool false] 4)) = W0 := ⟨_, rfl⟩
 rw [hW0] at hT0 bR hB0 hsz
 (try rw [hW0])
 clear hW0 hs0
 refine wpIn_rangeFunc_ownG rfl h1 (gf := 146) (lb := #[.pointer (some ⟨Bs, 0, none⟩)]) rfl trivial (enters_of Tryz.func146 (by kernel_rfl) rfl)
  (spans_stops Fence.wide (n - 1) trivial rfl (by omega) Bs w.heap.size a len cap hlc hl150 W0 hBs (by omega) ((hB0.cell (p := ⟨Bs, 0, none⟩) hBs).trans HC.out) hI) belowK_t (belowK_b (by omega)) (Below.refl _ _) (fun _ => rfl)
  (fun pre W => (W.heap[w.heap.size]? = some (.cells #[fnS Bs, fnM] 124) ∧ Boxed W (w.heap.size + 1) 4 (.bool false)) ∧ Below w.heap.size w W)
  (fun _ _ _ => False)
  (OwnFrom.and (OwnFrom.and (Own.from (row_ownFrom _ _ _ _) _) ((boxed_own _ _ _).from _)) (ownFrom_below (Nat.le_refl _) (by omega)))
  (fun _ _ _ _ _ hs _ _ => hs)
  ⟨⟨hT0, bR⟩, hB0⟩
  (fun j => { tmps := #[.agg #[fnS Bs, fnM], .pointer (some ⟨w.heap.size, 0, none⟩), .pointer (some ⟨w.heap.size + 1, 0, none⟩), spW a len cap j, .pointer (some ⟨w.heap.size, 0, none⟩), fnS Bs, spW a len cap j, undef, undef, undef, undef, undef], defers := [] }) ?assign ?body ?done ?stop
 case assign =>
  intro l0 x W K hK
  gi_wp2
  exact hK
 case body =>
  rintro l0 pre j W ⟨⟨hT, hb⟩, hB⟩ _
  obtain ⟨a', n', c', e1, e2, e3, e4⟩ := spW_ex a l len cap HL.out hI j
  rw [e1]
  obtain ⟨k0, k1⟩ := cells_two hT
  have CM := mostI a' (spL l j) n' c' e2 (by omega) (fun x hx => HP.out x (List.mem_of_mem_drop (List.mem_of_mem_take hx))) (HSP.out j) W (e4 W (HR.out.keep hB (Nat.le_refl _)))
  have HT := hq hT
  have HBx := hq hb
  have HBl := hq hB
  clear e1 e2 e4 hT hb hB hI
  gi_wp2_with fail
  refine ⟨trivial, fun _ => by omega, ?_⟩
  refine (CallsIn.inRound l0 (callsIn_wide.2 CM)).mono ?_
  rintro e w3 ⟨rfl, hb3⟩
  gi_wp2
  have hW3 : Below w.heap.size W w3 := hb3.mono HBl.out.size
  exact ⟨⟨hb3.size, fun k o _ hk _ => row_on hk hb3⟩, hW3, ⟨row_on HT.out hb3, (row_on (show W.heap[w.heap.size + 1]? = some _ from HBx.out) hb3)⟩, HBl.out.trans hW3⟩
 case done =>
  rintro D ys W hD rfl ⟨⟨hT, hb⟩, hB⟩ hK
  have hcb := hb.cell
  have hfb := hb.frozen
  gi_wp2
  have hK' := (KeepsOthers.setCell W ⟨w.heap.size + 1, 0, none⟩ (.bool true)).same D _ hK rfl
  refine ⟨by simp, .inl ⟨_, _, rfl, run_takeDeferred hK', ?_⟩⟩
  have hc5 := cell_kept (World.cell?_setCell_same' W ⟨w.heap.size + 1, 0, none⟩ (.bool true) (by rw [hcb]; rfl)) (grownBy_putObj' _ D (.deferred none)) (fun r e => by cases e; exact ⟨_, hK', rfl⟩)
  refine ⟨.bool true, ?_, rfl, (hB.setCell (p := ⟨w.heap.size + 1, 0, none⟩) (by simp) _).trans (belowK_b (w := w) (Nat.le_refl _) _ D _ _ (by omega) hK' rfl rfl)⟩
  simp [results, Tryz.f88, go_sem, hc5]
 case stop =>
  rintro D c pre W _ _ h _
  exact h.elim
theorem withinI (a : Option Addr) (l : List Tk3) (n cap : Nat) (hl : l.length = n) (hlc : n ≤ cap) (hn : n ≤ 150) (hP : ∀ x ∈ l, 0 ≤ x.1 ∧ x.1 ≤ 30) (hS : ∀ j, sumT (spL l j) ≤ 30) (w : World) (hr : RdY w a l) :
  Calls Tryz.prog 34 #[.slice a n cap] w fun e w' => e = .returned (.bool true) ∧ Below w.heap.size w w' := by
 have HR := hq hr
 have HL := hq hl
 have HP := hq hP
 have HSP := hq hS
 clear hr hl hP hS
 go_enter Tryz.func34, Tryz.ntmps34
 go_wp2_with fail
 refine (spansOfI a n cap _).mono ?_
 rintro e w1 ⟨rfl, rfl⟩
 have hb1 : Below w.heap.size w (w.alloc (.cells #[.slice a n cap] 35)) := (Below.refl _ _).alloc (Nat.le_refl _) _
 have HB1 := hq hb1
 have HI := hq (HR.out.on hb1)
 have HC : Hid ((w.alloc (.cells #[.slice a n cap] 35)).cell? ⟨w.heap.size, 0, none⟩ = some (.slice a n cap)) := (Boxed.new w _ _).cell
 clear hb1
 go_wp2_with fail
 refine (callsIn_wide.1 (isSoM 6 (by omega) a l n cap HL.out hlc hn HP.out HSP.out w.heap.size _ (by simp) HC.out HI.out)).mono ?_
 rintro e w2 ⟨rfl, hb2⟩
 have HB2 := bq HB1 hb2
 clear hb2 HB1 HI HC
 go_wp2
 go_ret
 exact ⟨rfl, HB2.out⟩
theorem sumT_plsF : ∀ l : List Tk3, sumT l = G.sumN (plsF l)
 | [] => rfl
 | x :: l => by
  show x.1 + sumT l = x.1 + G.sumN (plsF l)
  rw [sumT_plsF l]
theorem span_le {D : Dv} (h : TruS D) (j : Nat) : sumT (spL D.t j) ≤ 30 := by
 rw [sumT_plsF, show plsF (spL D.t j) = ((plsF D.t).drop j).take 10 by simp [spL, plsF, List.map_take, List.map_drop]]
 exact tru_span h j
end Go.Proofs.YtfhhnelffldggaaGreatDoor
namespace Go.Proofs.YtfhhnelffldggaaGreatDoor
open Go.ChangeShapes Go.WideShapes Go.ChangeAt Go.RowKit Go.Deep Go.PlainAid
set_option linter.unusedVariables false
set_option linter.unusedSimpArgs false
structure LifeT (D : Dv) (n : Nat) : Prop where
 tru : TruS D
 len : D.t.length = n
 giv : D.p.g = sumT D.t
theorem lifeT_of (ys : List Inp) (hok : ∀ y ∈ ys, y.ok) (hn : ys.length ≤ 150) : LifeT (runD newD (ys.map (·.i))) ys.length := by
 have hic : ∀ i ∈ ys.map (·.i), i.ok := fun i hi => by obtain ⟨y, hy, rfl⟩ := List.mem_map.1 hi; exact (hok y hy).ic
 have hR := run_okD (ys.map (·.i)) tru_new.ok hic
 have hg := run_given (ys.map (·.i)) tru_new.ok hic (by show (0 : Int) + _ ≤ _; simp; omega)
 refine ⟨tru_run _ tru_new hic, ?_, ?_⟩
 · rw [hR.2.1]; show 0 + _ = _; simp
 ·
  have : newD.p.g - sumT newD.t = 0 := rfl
  rw [this] at hg
  omega
def winT (t : List Tk3) (i k : Nat) : List Tk3 := (t.drop i).take (k - i)
theorem winT_nil (t : List Tk3) (i : Nat) : sumT (winT t i i) = 0 := by unfold winT; simp [sumT]
theorem winT_succ {t : List Tk3} {i k : Nat} (hik : i ≤ k) (hk : k < t.length) : sumT (winT t i (k + 1)) = sumT (winT t i k) + t[k].1 := by
 unfold winT
 rw [show k + 1 - i = (k - i) + 1 by omega, List.take_succ_eq_append_getElem (by simp; omega), sumT_app]
 simp [sumT]
 congr 2
 omega
theorem sumT_take_le {l : List Tk3} (h : ∀ x ∈ l, 0 ≤ x.1 ∧ x.1 ≤ 30) {a b : Nat} (hab : a ≤ b) : sumT (l.take a) ≤ sumT (l.take b) := by
 obtain ⟨c, rfl⟩ : ∃ c, b = a + c := ⟨b - a, by omega⟩
 rw [List.take_add, sumT_app]
 have h2 := sumT_bd ((l.drop a).take c) (fun x hx => h x (List.mem_of_mem_drop (List.mem_of_mem_take hx)))
 omega
theorem winT_le {t : List Tk3} (hb : ∀ x ∈ t, 0 ≤ x.1 ∧ x.1 ≤ 30) (hs : ∀ j, sumT (spL t j) ≤ 30) {i k : Nat} (hk : k ≤ i + 10) : 0 ≤ sumT (winT t i k) ∧ sumT (winT t i k) ≤ 30 := by
 have h0 := sumT_bd (winT t i k) (fun x hx => hb x (List.mem_of_mem_drop (List.mem_of_mem_take hx)))
 have h1 := sumT_take_le (l := t.drop i) (fun x hx => hb x (List.mem_of_mem_drop hx)) (a := k - i) (b := 10) (by omega)
 have h2 := hs i
 unfold spL at h2
 unfold winT at h0 ⊢
 omega
theorem withinS (a : Option Addr) (t : List Tk3) (n cap : Nat) (hl : t.length = n) (hn : n ≤ 150) (hP : ∀ x ∈ t, 0 ≤ x.1 ∧ x.1 ≤ 30) (hS : ∀ j, sumT (spL t j) ≤ 30) (w : World) (hr : RdY w a t) :
  Calls Tryz.prog 38 #[.slice a n cap] w fun e w' => e = .returned (.bool true) ∧ w' = w := by
 have HTL := hq hl
 have HNN := hq hP
 have HSP := hq hS
 have HR := hq hr
 clear hl hP hS hr
 go_enter Tryz.func38, Tryz.ntmps38
 go_wp2_with fail
 go_loopw [3] (fun iv wr => ∃ (j : Nat), j ≤ n ∧ iv = .int .i64 j ∧ wr = w) (fun iv _ => n - (intOf iv).toNat)
 case atStart => exact ⟨0, Nat.zero_le _, rfl, rfl⟩
 case round =>
  obtain ⟨j, hj, rfl, rfl⟩ := hrel
  by_cases hlt : j < n
  ·
   have q1 : IntKind.i64.wrap ((j : Int) + 1) = (j : Int) + 1 := wrap_in (by omega) (by omega)
   have q2 : IntKind.i64.wrap ((j : Int) + 10) = (j : Int) + 10 := wrap_in (by omega) (by omega)
   have j1 : (j : Int) < (n : Int) := by omega
   obtain ⟨g, off, rfl, hc⟩ := HR.out (by have := HTL.out; omega)
   have HCE : Hid (∀ k (h : k < t.length), wr.cell? ⟨g, off + k * 3, none⟩ = some (.int .i64 t[k].1)) := fun k h => (hc k h).1
   clear hc
   go_wp2_with fail
   go_loopw [4, 5] (fun sv kv wr2 => ∃ (k : Nat) (R : Int), j ≤ k ∧ k ≤ j + 10 ∧ k ≤ n ∧ sv = .int .i64 R ∧ kv = .int .i64 k ∧ wr2 = wr ∧ Hid (R = sumT (winT t j k))) (fun _ kv _ => n - (intOf kv).toNat)
   case atStart => exact ⟨j, 0, Nat.le_refl _, by omega, by omega, rfl, rfl, rfl, (winT_nil t j).symm⟩
   case round =>
    obtain ⟨k, R, hk0, hk1, hk2, rfl, rfl, rfl, HRS⟩ := hrel
    by_cases hkt : k < n
    ·
     by_cases hk10 : k < j + 10
     ·
      have hkl : k < t.length := by have := HTL.out; omega
      have d0 := HCE.out k hkl
      obtain ⟨y, hy⟩ : ∃ y, t[k].1 = y := ⟨_, rfl⟩
      rw [hy] at d0
      have hbR := winT_le HNN.out HSP.out (i := j) (k := k) hk1
      rw [← HRS.out] at hbR
      have hby : 0 ≤ y ∧ y ≤ 30 := by rw [← hy]; exact HNN.out _ (List.getElem_mem hkl)
      have hR2 : R + y = sumT (winT t j (k + 1)) := by rw [winT_succ hk0 hkl, HRS.out, hy]
      have hb2 := winT_le HNN.out HSP.out (i := j) (k := k + 1) (by omega)
      rw [← hR2] at hb2
      have HR2 := hq hR2
      obtain ⟨z2, hz2⟩ : ∃ z, R + y = z := ⟨_, rfl⟩
      have HE : Hid (IntKind.i64.wrap (R + y) = z2) := (wrap_in (by omega) (by omega)).trans hz2
      rw [hz2] at HR2 hb2
      have r1 : IntKind.i64.wrap ((k : Int) + 1) = (k : Int) + 1 := wrap_in (by omega) (by omega)
      have k0 : (0 : Int) ≤ (k : Int) := by omega
      have k1 : (k : Int) < (n : Int) := by omega
      have k2 : (k : Int) < (j : Int) + 10 := by omega
      have h30 : ¬ (30 : Int) < z2 := by omega
      clear hy hkl HRS hR2 hz2
      go_wp2_with fail
      refine (addSd R y z2 HE.out hbR.1 (by omega) hby.1 (by omega) hb2.1 (by omega) _).mono ?_
      rintro e w2 ⟨rfl, rfl⟩
      clear d0
      go_wp2
      go_roundw
      case rel => exact ⟨k + 1, z2, by omega, by omega, by omega, rfl, by go_num, trivial, HR2⟩
      case measure => simp [intOf]; omega
     ·
      have k1 : (k : Int) < (n : Int) := by omega
      have k2 : ¬ (k : Int) < (j : Int) + 10 := by omega
      clear HRS
      go_wp2
      go_roundw
      case rel => exact ⟨j + 1, by omega, by go_num, trivial⟩
      case measure => simp [intOf]; omega
    ·
     have k1 : ¬ (k : Int) < (n : Int) := by omega
     clear HRS
     go_wp2
     go_roundw
     case rel => exact ⟨j + 1, by omega, by go_num, trivial⟩
     case measure => simp [intOf]; omega
  ·
   have j1 : ¬ (j : Int) < (n : Int) := by omega
   go_wp2
   go_ret
   exact ⟨rfl, rfl⟩
theorem stops_life {D : Dv} (h : TruS D) : D.t.all stopT = true := by
 rw [List.all_eq_true]
 intro x hx
 unfold stopT
 by_cases h0 : x.2.1 = 0
 · simp [h0]
 · simp [h.stop x hx h0]
end Go.Proofs.YtfhhnelffldggaaGreatDoor
