/-
  Plain facts on decimal figures, of no program. No conditions.
-/
import Derived.Lib.ItoaNum
import Derived.Test.YtfhhnelffldggaaGreatDoorUqAC
import Derived.Test.YtfhhnelffldggaaGreatDoorUqAB
import Derived.Test.YtfhhnelffldggaaGreatDoorUqAQ
import Derived.Test.YtfhhnelffldggaaGreatDoorUqAF
import Derived.RegionTactic
import Derived.ChangeAlike
import Derived.BigRegion
import Derived.Test.YtfhhnelffldggaaGreatDoorUqBO
import Derived.Deep.DeepCutAuto
import Derived.Test.YtfhhnelffldggaaGreatDoorUqBV
import Derived.Test.YtfhhnelffldggaaGreatDoorUqBE
import Derived.Test.YtfhhnelffldggaaGreatDoorUqAX
import Derived.Laws.StructEq
import Derived.Test.YtfhhnelffldggaaGreatDoorUqBP
import Derived.Test.YtfhhnelffldggaaGreatDoorUqBZ
import Derived.Test.YtfhhnelffldggaaGreatDoorUqCA
import Derived.Test.YtfhhnelffldggaaGreatDoorUqCD
namespace Go.Proofs.YtfhhnelffldggaaGreatDoor.Plain
open Go.Lib
def fb (r : Nat) : UInt8 := UInt8.ofNat (48 + r)
def Rd (l : List UInt8) (r : Option Nat) : Prop := (∀ n, r = some n → n ≤ 1000000000 ∧ decDigits n = l) ∧ (r = none → ∀ m, m ≤ 1000000000 → decDigits m ≠ l)
end Go.Proofs.YtfhhnelffldggaaGreatDoor.Plain

namespace Go.Proofs.YtfhhnelffldggaaGreatDoor
open Go.RowKit Go.PlainAid Plain
open Go.Lib (decDigits)
set_option linter.unusedVariables false
set_option linter.unusedSimpArgs false
end Go.Proofs.YtfhhnelffldggaaGreatDoor
namespace Go.Proofs.YtfhhnelffldggaaGreatDoor.Dc
open Go.RowKit Plain Go.PlainAid
open Go.Lib (decDigits itoa)
set_option linter.unusedVariables false
theorem one_text (b : UInt8) (w : World) : (convert 22 9 (.slice (some ⟨w.heap.size, 0, none⟩) 1 1)).run Tryz.prog (w.alloc (.cells #[.int .u8 (b.toNat : Int)] 5)) = .ok (.string ⟨[b].toArray⟩) (w.alloc (.cells #[.int .u8 (b.toNat : Int)] 5)) :=
  run_convert_bytes_back (P := Tryz.prog) _ 22 9 5 ⟨w.heap.size, 0, none⟩ 1 [b] Tryz.underlying22 Tryz.underlying5 Tryz.underlying9 (fun j hj => by
    obtain rfl : j = 0 := by simpa using hj
    simp [Addr.add])
end Go.Proofs.YtfhhnelffldggaaGreatDoor.Dc

namespace Go.Proofs.YtfhhnelffldggaaGreatDoor
open Go.RowKit Go.PlainAid
set_option linter.unusedVariables false
set_option linter.unusedSimpArgs false
end Go.Proofs.YtfhhnelffldggaaGreatDoor

set_option maxRecDepth 100000
set_option maxHeartbeats 16000000
namespace Go.Proofs.YtfhhnelffldggaaGreatDoor
open Go.RowKit Go.PlainAid
open Go.Lib (decDigits)
set_option linter.unusedVariables false
set_option linter.unusedSimpArgs false
theorem sameTk (a b : Option Addr) (t : List Tk3) (n ca cb : Nat) (ht : t.length = n) (hn : n ≤ 1000) (w : World) (ha : RdY w a t) (hb : RdY w b t) :
  Calls Tryz.prog 10 #[.slice a n ca, .slice b n cb] w fun e w' => e = .returned (.bool true) ∧ Below w.heap.size w w' := by
 have HT := hq ht
 have HA := hq ha
 have HB := hq hb
 clear ht ha hb
 go_enter Tryz.func10, Tryz.ntmps10
 go_wp2_with fail
 go_loopg [5] n (fun gk i wr => ∃ (j : Nat), j + gk = n ∧ i = .int .i64 j ∧ Hid (Below w.heap.size w wr))
 case atStart => exact ⟨0, by omega, rfl, Below.refl _ _⟩
 case round =>
  obtain ⟨j, hj, rfl, HW⟩ := hrel
  by_cases hlt : j < n
  ·
   have hjl : j < t.length := by rw [HT.out]; exact hlt
   obtain ⟨g1, o1, rfl, hc1⟩ := HA.out.keep HW.out (Nat.le_refl _) (by omega)
   obtain ⟨g2, o2, rfl, hc2⟩ := HB.out.keep HW.out (Nat.le_refl _) (by omega)
   have k1 := hc1 j hjl
   have k2 := hc2 j hjl
   obtain ⟨⟨y0, y1, y2⟩, hy⟩ : ∃ y, t[j] = y := ⟨_, rfl⟩
   rw [hy] at k1 k2
   dsimp only at k1 k2
   have HK : Hid ((wr.cell? ⟨g1, o1 + j * 3, none⟩ = some (.int .i64 y0) ∧ wr.cell? ⟨g1, o1 + j * 3 + 1, none⟩ = some (.int .i64 y1) ∧ wr.cell? ⟨g1, o1 + j * 3 + 2, none⟩ = some (.int .i64 y2)) ∧ (wr.cell? ⟨g2, o2 + j * 3, none⟩ = some (.int .i64 y0) ∧ wr.cell? ⟨g2, o2 + j * 3 + 1, none⟩ = some (.int .i64 y1) ∧ wr.cell? ⟨g2, o2 + j * 3 + 2, none⟩ = some (.int .i64 y2))) := ⟨k1, k2⟩
   have j0 : (0 : Int) ≤ j := by omega
   have j1 : (j : Int) < n := by omega
   have qj : IntKind.i64.wrap ((j : Int) + 1) = (j : Int) + 1 := wrap_in (by omega) (by omega)
   clear hc1 hc2 k1 k2 hy
   go_upto_region 6 with fail
   refine wp_region_held_drew (S := fun wr => (wr.cell? ⟨g1, o1 + j * 3, none⟩ = some (.int .i64 y0) ∧ wr.cell? ⟨g1, o1 + j * 3 + 1, none⟩ = some (.int .i64 y1) ∧ wr.cell? ⟨g1, o1 + j * 3 + 2, none⟩ = some (.int .i64 y2)) ∧ (wr.cell? ⟨g2, o2 + j * 3, none⟩ = some (.int .i64 y0) ∧ wr.cell? ⟨g2, o2 + j * 3 + 1, none⟩ = some (.int .i64 y1) ∧ wr.cell? ⟨g2, o2 + j * 3 + 2, none⟩ = some (.int .i64 y2))) (by kernel_rfl) HK.out (fun hHeld => ?_)
   have HW2 : Hid (Below w.heap.size w wr.drew) := HW.out.drew
   refine tkQ 0 ?_ rfl ?_ ?_
   rotate_left
   · intro w_ hSw; (try dsimp only at hSw); (try clear hSw); (try clear hHeld); go_simp <;> with_reducible rfl
   try simp only [Act.put, sQ]
   refine tkQ 1 ?_ rfl ?_ ?_
   rotate_left
   · intro w_ hSw; (try dsimp only at hSw); (try clear hSw); (try clear hHeld); go_simp <;> with_reducible rfl
   try simp only [Act.put, sQ]
   refine tkQ 2 ?_ rfl ?_ ?_
   rotate_left
   · intro w_ hSw; (try dsimp only at hSw); (try clear hSw); (try clear hHeld); go_simp <;> with_reducible rfl
   try simp only [Act.put, sQ]
   refine tkQ 3 ?_ rfl ?_ ?_
   rotate_left
   · intro w_ hSw; (try dsimp only at hSw); obtain ⟨⟨f0, f1, f2⟩, _⟩ := hSw; (try clear hSw); (try clear hHeld); go_simp <;> with_reducible rfl
   try simp only [Act.put, sQ]
   refine tkQ 4 ?_ rfl ?_ ?_
   rotate_left
   · intro w_ hSw; (try dsimp only at hSw); (try clear hSw); (try clear hHeld); go_simp <;> with_reducible rfl
   try simp only [Act.put, sQ]
   refine tkQ 5 ?_ rfl ?_ ?_
   rotate_left
   · intro w_ hSw; (try dsimp only at hSw); (try clear hSw); (try clear hHeld); go_simp <;> with_reducible rfl
   try simp only [Act.put, sQ]
   refine tkQ 6 ?_ rfl ?_ ?_
   rotate_left
   · intro w_ hSw; (try dsimp only at hSw); (try clear hSw); (try clear hHeld); go_simp <;> with_reducible rfl
   try simp only [Act.put, sQ]
   refine tkQ 7 ?_ rfl ?_ ?_
   rotate_left
   · intro w_ hSw; (try dsimp only at hSw); obtain ⟨_, f0, f1, f2⟩ := hSw; (try clear hSw); (try clear hHeld); go_simp <;> with_reducible rfl
   try simp only [Act.put, sQ]
   refine tkQ 8 ?_ rfl ?_ ?_
   rotate_left
   · intro w_ hSw; (try dsimp only at hSw); (try clear hSw); (try clear hHeld); go_simp <;> with_reducible rfl
   try simp only [Act.put, sQ]
   clear hHeld
   refine wpAnyH_done (by kernel_rfl) ?_ _
   clear HK
   go_wp2
   go_roundg (gk - 1)
   case measure => omega
   case rel => exact ⟨j + 1, by omega, by go_num, HW2⟩
  ·
   have hne : ¬ ((j : Int) < n) := by omega
   go_wp2
   go_ret
   exact ⟨rfl, HW.out⟩
end Go.Proofs.YtfhhnelffldggaaGreatDoor

namespace Go.Proofs.YtfhhnelffldggaaGreatDoor
open Go.ChangeShapes Go.WideShapes Go.ChangeAt Go.RowKit Go.Deep Go.PlainAid
set_option linter.unusedVariables false
set_option linter.unusedSimpArgs false
end Go.Proofs.YtfhhnelffldggaaGreatDoor

set_option maxRecDepth 100000
set_option maxHeartbeats 16000000
namespace Go.Proofs.YtfhhnelffldggaaGreatDoor
open Go.ChangeShapes Go.WideShapes Go.ChangeAt Go.RowKit Go.PlainAid
set_option linter.unusedVariables false
set_option linter.unusedSimpArgs false
theorem pmpU : Tryz.prog.underlying 29 = some (.struct (Tryz.prog.fieldsOf 29)) := by kernel_rfl
theorem pmpH : Tryz.prog.stoodInHeld 29 = false := by kernel_rfl
theorem pmpG : Tryz.prog.eqGuardType Tryz.prog.depth 29 = false := by kernel_rfl
theorem ratU : Tryz.prog.underlying 27 = some (.struct (Tryz.prog.fieldsOf 27)) := by kernel_rfl
theorem ratH : Tryz.prog.stoodInHeld 27 = false := by kernel_rfl
theorem rat_same (m : Nat) (n d r : Int) (w : World) : (Op.equalIn (m + 5) 27 (.agg #[.int .i64 n, .int .i64 d, .int .i64 r]) (.agg #[.int .i64 n, .int .i64 d, .int .i64 r])).run Tryz.prog w = .ok true w := by
  rw [run_equalIn_agg _ _ _ _ _ ratU ratH]
  have hf : (Tryz.prog.fieldsOf 27).toList.map (fun f => (f.name == "_", f.type, f.offset)) = [(false, 3, 0), (false, 3, 1), (false, 3, 2)] := by kernel_rfl
  have hu := Tryz.underlying3
  generalize (Tryz.prog.fieldsOf 27).toList = fs at hf ⊢
  have hlen : fs.length = 3 := by simpa using congrArg List.length hf
  match fs, hlen, hf with
  | [f0, f1, f2], _, hf =>
    simp at hf
    obtain ⟨⟨a0, a1, a2⟩, ⟨b0, b1, b2⟩, ⟨c0, c1, c2⟩⟩ := hf
    simp [Op.eqFields, go_sem, a0, a1, a2, b0, b1, b2, c0, c1, c2, hu, run_equalIn_int _ _ _ _ _ _ _ hu]
theorem rat_part (s n d r l b g k : Int) (w : World) : (part 27 #[.int .i64 s, .int .i64 n, .int .i64 d, .int .i64 r, .int .i64 l, .int .i64 b, .int .i64 g, .int .i64 k] 1).run Tryz.prog w = .ok (.agg #[.int .i64 n, .int .i64 d, .int .i64 r]) w := by kernel_rfl
theorem pmp_same (s n d r l b g k : Int) (w : World) : (Op.equalIn 10000 29 (.agg #[.int .i64 s, .int .i64 n, .int .i64 d, .int .i64 r, .int .i64 l, .int .i64 b, .int .i64 g, .int .i64 k]) (.agg #[.int .i64 s, .int .i64 n, .int .i64 d, .int .i64 r, .int .i64 l, .int .i64 b, .int .i64 g, .int .i64 k])).run Tryz.prog w = .ok true w := by
  rw [run_equalIn_agg _ _ _ _ _ pmpU pmpH]
  have hf : (Tryz.prog.fieldsOf 29).toList.map (fun f => (f.name == "_", f.type, f.offset)) = [(false, 3, 0), (false, 27, 1), (false, 3, 4), (false, 3, 5), (false, 3, 6), (false, 3, 7)] := by kernel_rfl
  have hu := Tryz.underlying3
  generalize (Tryz.prog.fieldsOf 29).toList = fs at hf ⊢
  have hlen : fs.length = 6 := by simpa using congrArg List.length hf
  match fs, hlen, hf with
  | [f0, f1, f2, f3, f4, f5], _, hf =>
    simp at hf
    obtain ⟨⟨a0, a1, a2⟩, ⟨b0, b1, b2⟩, ⟨c0, c1, c2⟩, ⟨d0, d1, d2⟩, ⟨e0, e1, e2⟩, ⟨g0, g1, g2⟩⟩ := hf
    have hr := rat_part s n d r l b g k
    have hs := rat_same 9994 n d r
    simp [Op.eqFields, go_sem, a0, a1, a2, b0, b1, b2, c0, c1, c2, d0, d1, d2, e0, e1, e2, g0, g1, g2, hu, hr, hs, run_equalIn_int _ _ _ _ _ _ _ hu]
theorem pmp_eql (s n d r l b g k : Int) (w : World) : (binOp .eql 29 (.agg #[.int .i64 s, .int .i64 n, .int .i64 d, .int .i64 r, .int .i64 l, .int .i64 b, .int .i64 g, .int .i64 k]) (.agg #[.int .i64 s, .int .i64 n, .int .i64 d, .int .i64 r, .int .i64 l, .int .i64 b, .int .i64 g, .int .i64 k])).run Tryz.prog w = .ok (.bool true) w := by
  rw [run_eql_struct, pmp_same]; rfl
end Go.Proofs.YtfhhnelffldggaaGreatDoor

set_option maxRecDepth 100000
set_option maxHeartbeats 16000000
namespace Go.Proofs.YtfhhnelffldggaaGreatDoor
open Go.ChangeShapes Go.WideShapes Go.ChangeAt Go.RowKit Go.Deep Go.PlainAid
set_option linter.unusedVariables false
set_option linter.unusedSimpArgs false
theorem loadWT {ops : Array Oper} {rest : List Oper} {o : Oper} {a : Act} {w : World} {Q : Exit → Act → World → Prop} (hw : Region.wanted o (yielded ops a.tmps) = true) (ty : TypeId) (x : Operand) (ho : o.op = .load ty x)
  (g : Nat) (hx : a.eval x = .pointer (some ⟨g, 0, none⟩)) (t : TypeId) (cs : Array Value) (fr : Nat × Nat) (d : TypeDesc) (hg : w.heap[g]? = some (.cells cs t fr))
  (hu : Tryz.prog.underlying ty = some d) (hd : (match d with | .struct _ | .array _ _ => true | _ => false) = true) (hi : (Tryz.prog.info? ty).map (·.size) = some cs.size)
  (h : wpList Tryz.prog ops Q rest (a.put o.dst (.agg cs)) w) : wpList Tryz.prog ops Q (o :: rest) a w :=
 BigFrame.wpList_want hw fun _ hK => wp_load_row ty x ho g hx t cs fr d hg hu (by cases d <;> first | rfl | (cases hd)) hi (hK _ _ h)
theorem OwnU.cap' {w : World} {B g n c : Nat} {l : List Tk3} (h : OwnU w B g n c l) : n ≤ c := by
 rcases h.2 with ⟨h, _⟩ | ⟨_, _, _, h, _, _, h2, _⟩
 · cases h
 · cases h; exact h2
theorem top_in (a : Option Addr) (len cap : Nat) (hb : len ≤ 1048576) (w : World) (hcode : CodeOk w w.heap.size a len) (ht : Q.Tab w) :
  Calls Tryz.prog 3 #[.slice a len cap] w fun e w' => e = .returned (.bool true) ∧ Below w.heap.size w w' := by
 have HC0 := hq hcode
 have HT := hq ht
 clear hcode ht
 go_enter Tryz.func3, Tryz.ntmps3
 go_wp2_with fail
 refine (big5 a len cap (by omega) _).mono ?_
 rintro e w1 ⟨rfl, rfl⟩
 rw [decide_eq_false (by omega)]
 go_wp2_with fail
 refine (drawIns a len cap _ HC0.out).mono ?_
 rintro e w2 ⟨g, n0, cap0, l, rfl, ho, hi, hn, hb2⟩
 obtain ⟨ys, hys, hok⟩ := inps_of l hi
 have hyl : ys.length = n0 := by have := ho.len; rw [← hys] at this; simpa using this
 obtain ⟨ain, hain⟩ : ∃ x, (some ⟨g, 0, none⟩ : Option Addr) = x := ⟨_, rfl⟩
 have HRI : Hid (RdZ w2 ain (ys.map Inp.t3)) := by show RdZ _ _ _; rw [hys, ← hain]; exact ho.rd
 have HB2 := hq hb2
 have HT2 : Hid (Q.Tab w2) := Q.tab_below HT.out HB2.out
 have HOK := hq hok
 have HYL := hq hyl
 have hlife := lifeT_of ys hok (by omega)
 have hic : ∀ i ∈ (ys.map (·.i)), i.ok := fun i hi => by obtain ⟨y, hy, rfl⟩ := List.mem_map.1 hi; exact (hok y hy).ic
 have hrf := (run_okD (ys.map (·.i)) newD_ok hic).2.2
 obtain ⟨D, hD⟩ : ∃ D, runD newD (ys.map (·.i)) = D := ⟨_, rfl⟩
 rw [hD] at hlife hrf
 rw [hyl] at hlife
 rw [List.length_map, hyl] at hrf
 have HDE := hq hD
 have HDA : Hid (atD (ys.map (·.i)) n0 = D) := by
  show _ = _
  unfold atD
  rw [List.take_of_length_le (by rw [List.length_map, hyl]; exact Nat.le_refl _)]
  exact hD
 have HLF := hq hlife
 have hrfb : D.rf ≤ 1000000000 := by dsimp only [newD] at hrf; omega
 rw [hain]
 clear ho hi hb2 hys hok hyl HC0 HT hain hlife hrf hic hD
 go_wp2_with fail
 refine (runI ys HOK.out ain n0 cap0 HYL.out (by omega) D.p D.l D.al D.m D.t D.rf HDE.out _ HT2.out HRI.out).mono ?_
 rintro e w3 ⟨g4, n4, c4, t4, n0', d4, rfl, ho4, hu4, hb⟩
 obtain rfl : n0 = n0' := by have h1 := hu4.len; have h2 := HLF.out.len; omega
 have HC3 := hq hb
 have HG3 := hq ho4
 have HU3 := hq hu4
 have HNL : Hid (D.l.length = n4) := ho4.len
 have hcap : n0 ≤ d4 := hu4.cap'
 clear ho4 hu4 hb
 obtain ⟨b4, hb4⟩ : ∃ x, w3.heap.size = x := ⟨_, rfl⟩
 have HN : Hid ((w3.alloc (dZ)).heap[b4]? = some (dZ)) := by rw [← hb4]; exact heap_new w3 _
 go_wp2_with (refine listStoreD rfl rfl _ _ _ rfl rfl b4 (dR D.p (.slice (some ⟨g4, 0, none⟩) n4 c4) D.al D.m (.slice (some ⟨t4, 0, none⟩) n0 d4) D.rf) rfl rfl rfl (by kernel_rfl) HN.out rfl ?_)
 intro w4 hput
 have hb : Below w3.heap.size w3 w4 := hput.2.2.2 _ _ (by omega) (alM _ _)
 have HX4 := hq hput.1
 have HC4 : Hid (Below w2.heap.size w2 w4) := bel_on (Nat.le_refl _) HC3.out hb
 have HG4 := hq (HG3.out.on hb)
 have HU4 := hq (HU3.out.on hb)
 clear hput hb HN HC3 HG3 HU3 hb4
 go_wp2_with fail
 refine (runS ys HOK.out ain n0 cap0 HYL.out (by omega) D HDA.out _ (HRI.out.keep HC4.out (Nat.le_refl _))).mono ?_
 rintro e w5 ⟨A6, n6, c6, T6, d6, rfl, _, hg6, hu6, hl6, hb⟩
 obtain rfl : n4 = n6 := HNL.out.symm.trans hl6
 have HX5 := rq HX4 hb
 have HC5 : Hid (Below w2.heap.size w2 w5) := bel_on (Nat.le_refl _) HC4.out hb
 have HG5 := hq (HG4.out.on hb)
 have HU5 := hq (HU4.out.on hb)
 have HG65 := hq hg6
 have HU65 := hq hu6
 clear hb HX4 HC4 HG4 HU4 hg6 hu6 hl6
 obtain ⟨b6, hb6⟩ : ∃ x, w5.heap.size = x := ⟨_, rfl⟩
 have HN : Hid ((w5.alloc (dZ)).heap[b6]? = some (dZ)) := by rw [← hb6]; exact heap_new w5 _
 go_wp2_with (refine listStoreD rfl rfl _ _ _ rfl rfl b6 (dR D.p (.slice A6 n4 c6) D.al D.m (.slice T6 n0 d6) D.rf) rfl rfl rfl (by kernel_rfl) HN.out rfl ?_)
 intro w6 hput
 have hb : Below w5.heap.size w5 w6 := hput.2.2.2 _ _ (by omega) (alM _ _)
 have HX6 := rq HX5 hb
 have HY6 := hq hput.1
 have HC6 : Hid (Below w2.heap.size w2 w6) := bel_on (Nat.le_refl _) HC5.out hb
 have HG6 := hq (HG5.out.on hb)
 have HU6 := hq (HU5.out.on hb)
 have HU66 := hq (HU65.out.keep hb (Nat.le_refl _))
 clear hput hb HN HX5 HC5 HG5 HU5 HG65 HU65 hb6
 have hok := HLF.out.tru.ok
 have HLEN : Hid (D.t.length = n0) := HLF.out.len
 have HNN := HLF.out.tru.nn
 have HSP : Hid (∀ j, sumT (spL D.t j) ≤ 30) := fun j => span_le HLF.out.tru j
 have HSTP : Hid (D.t.all stopT = true) := stops_life HLF.out.tru
 have HGIV : Hid (D.p.g = sumT D.t) := HLF.out.giv
 have k4 := box17_cells HX6.out
 have k6 := box17_cells HY6.out
 have gP := pmpG
 have eP := pmp_eql D.p.s D.p.n D.p.d D.p.r D.p.l D.p.b D.p.g D.p.k
 go_wp2_with fail
 refine (sameTk (some ⟨t4, 0, none⟩) T6 D.t n0 d4 d6 HLEN.out (by omega) _ HU6.out.rd HU66.out).mono ?_
 rintro e w7 ⟨rfl, hb⟩
 have HX7 := rq HX6 hb
 have HY7 := rq HY6 hb
 have HC7 : Hid (Below w2.heap.size w2 w7) := bel_on (Nat.le_refl _) HC6.out hb
 have HG7 : Hid (G.Rd w7 (some ⟨g4, 0, none⟩) D.l) := (HG6.out.on hb).rd
 have HU7 : Hid (RdY w7 (some ⟨t4, 0, none⟩) D.t) := (HU6.out.on hb).rd
 clear hb HX6 HY6 HC6 HG6 HU6 HU66 k4 k6
 have k4 := box17_cells HX7.out
 have k6 := box17_cells HY7.out
 have hee : ((n0 : Int) == (n0 : Int)) = true := by simp
 go_wp2_with (refine loadWT (by rfl) _ _ rfl b4 rfl _ _ _ _ HX7.out Tryz.underlying37 rfl (by kernel_rfl) ?_)
 clear k4 k6 gP eP
 refine (soundI D.p (some ⟨g4, 0, none⟩) n4 c4 D.l D.al D.m (some ⟨t4, 0, none⟩) n0 d4 D.t D.rf hok HNL.out HLEN.out (by omega) hcap hrfb HNN HSP.out HSTP.out HGIV.out _ HG7.out HU7.out).mono ?_
 rintro e w8 ⟨rfl, hb⟩
 have HX8 := rq HX7 hb
 have HC8 : Hid (Below w2.heap.size w2 w8) := bel_on (Nat.le_refl _) HC7.out hb
 have HG8 := hq (HG7.out.keep hb (Nat.le_refl _))
 have HU8 := hq (HU7.out.keep hb (Nat.le_refl _))
 clear hb HX7 HY7 HC7 HG7 HU7
 go_wp2_with (refine loadWT (by rfl) _ _ rfl b4 rfl _ _ _ _ HX8.out Tryz.underlying37 rfl (by kernel_rfl) ?_)
 refine (soundS D.p (some ⟨g4, 0, none⟩) n4 c4 D.l D.al D.m (some ⟨t4, 0, none⟩) n0 d4 D.t D.rf hok HNL.out HLEN.out (by omega) hcap hrfb HNN HSP.out HSTP.out HGIV.out _ HG8.out HU8.out).mono ?_
 rintro e w9 ⟨rfl, hb⟩
 have HX9 := rq HX8 hb
 have HC9 : Hid (Below w2.heap.size w2 w9) := bel_on (Nat.le_refl _) HC8.out hb
 have HU9 := hq (HU8.out.keep hb (Nat.le_refl _))
 clear hb HX8 HC8 HG8 HU8
 have k4 := box17_cells HX9.out
 go_wp2_with fail
 have HIC : Hid ((runD newD (icS ys)).t = D.t) := by show (runD newD (ys.map (·.i))).t = D.t; rw [HDE.out]
 refine (latchedI ys HOK.out n0 HYL.out (by omega) (some ⟨t4, 0, none⟩) ain d4 cap0 _ (Q.tab_below HT2.out HC9.out) (by rw [HIC.out]; exact HU9.out) (HRI.out.keep HC9.out (Nat.le_refl _))).mono ?_
 rintro e w10 ⟨rfl, hb⟩
 have HF : Hid (Below w1.heap.size w1 w10) := bel_on (Nat.le_refl _) (bel_on (Nat.le_refl _) HB2.out HC9.out) hb
 clear hb k4 HX9 HC9 HU9
 go_wp2
 go_ret
 exact ⟨rfl, HF.out⟩
end Go.Proofs.YtfhhnelffldggaaGreatDoor
