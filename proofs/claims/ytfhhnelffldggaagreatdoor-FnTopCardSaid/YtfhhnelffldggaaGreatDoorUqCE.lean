/-
  FnTop over bytes that are few enough.
-/
import Derived.Test.YtfhhnelffldggaaGreatDoorUqAC
import Derived.Test.YtfhhnelffldggaaGreatDoorUqBP
import Derived.Test.YtfhhnelffldggaaGreatDoorUqBT
import Derived.Test.YtfhhnelffldggaaGreatDoorUqBW
import Derived.Test.YtfhhnelffldggaaGreatDoorUqAX
import Derived.Test.YtfhhnelffldggaaGreatDoorUqBX
import Derived.Test.YtfhhnelffldggaaGreatDoorUqBZ
import Derived.Test.YtfhhnelffldggaaGreatDoorUqCA
import Derived.Test.YtfhhnelffldggaaGreatDoorUqCD
set_option maxRecDepth 100000
set_option maxHeartbeats 16000000
namespace Go.Proofs.YtfhhnelffldggaaGreatDoor
open Go.ChangeShapes Go.WideShapes Go.ChangeAt Go.RowKit Go.Deep Go.PlainAid
set_option linter.unusedVariables false
set_option linter.unusedSimpArgs false
theorem loadWT {ops : Array Oper} {rest : List Oper} {o : Oper} {a : Act} {w : World} {Q : Exit → Act → World → Prop} (hw : Region.wanted o (yielded ops a.tmps) = true) (ty : TypeId) (x : Operand) (ho : o.op = .load ty x)
  (g : Nat) (hx : a.eval x = .pointer (some ⟨g, 0, none⟩)) (t : TypeId) (cs : Array Value) (fr : Nat × Nat) (d : TypeDesc) (hg : w.heap[g]? = some (.cells cs t fr))
  (hu : Tryz.prog.underlying ty = some d) (hd : (match d with | .struct _ | .array _ _ => true | _ => false) = true) (hi : (Tryz.prog.info? ty).map (·.size) = some cs.size)
  (h : wpList Tryz.prog ops Q rest (a.put o.dst (.agg cs)) w) : wpList Tryz.prog ops Q (o :: rest) a w :=
 BigFrame.wpList_want hw fun _ hK => wp_load_row ty x ho g hx t cs fr d hg hu (by cases d <;> first | rfl | (cases hd)) hi (hK _ _ h)
theorem OwnU.cap' {w : World} {B g n c : Nat} {l : List Tk3} (h : OwnU w B g n c l) : n ≤ c := by
 rcases h.2 with ⟨h, _⟩ | ⟨_, _, _, h, _, _, h2, _⟩
 · cases h
 · cases h; exact h2
theorem top_in (a : Option Addr) (len cap : Nat) (hb : len ≤ 1048576) (w : World) (hcode : CodeOk w w.heap.size a len) (ht : Q.Tab w) :
  Calls Tryz.prog 3 #[.slice a len cap] w fun e w' => e = .returned (.bool true) ∧ Below w.heap.size w w' := by
 have HC0 := hq hcode
 have HT := hq ht
 clear hcode ht
 go_enter Tryz.func3, Tryz.ntmps3
 go_wp2_with fail
 refine (big5 a len cap (by omega) _).mono ?_
 rintro e w1 ⟨rfl, rfl⟩
 rw [decide_eq_false (by omega)]
 go_wp2_with fail
 refine (drawIns a len cap _ HC0.out).mono ?_
 rintro e w2 ⟨g, n0, cap0, l, rfl, ho, hi, hn, hb2⟩
 obtain ⟨ys, hys, hok⟩ := inps_of l hi
 have hyl : ys.length = n0 := by have := ho.len; rw [← hys] at this; simpa using this
 obtain ⟨ain, hain⟩ : ∃ x, (some ⟨g, 0, none⟩ : Option Addr) = x := ⟨_, rfl⟩
 have HRI : Hid (RdZ w2 ain (ys.map Inp.t3)) := by show RdZ _ _ _; rw [hys, ← hain]; exact ho.rd
 have HB2 := hq hb2
 have HT2 : Hid (Q.Tab w2) := Q.tab_below HT.out HB2.out
 have HOK := hq hok
 have HYL := hq hyl
 have hlife := lifeT_of ys hok (by omega)
 have hic : ∀ i ∈ (ys.map (·.i)), i.ok := fun i hi => by obtain ⟨y, hy, rfl⟩ := List.mem_map.1 hi; exact (hok y hy).ic
 have hrf := (run_okD (ys.map (·.i)) newD_ok hic).2.2
 obtain ⟨D, hD⟩ : ∃ D, runD newD (ys.map (·.i)) = D := ⟨_, rfl⟩
 rw [hD] at hlife hrf
 rw [hyl] at hlife
 rw [List.length_map, hyl] at hrf
 have HDE := hq hD
 have HDA : Hid (atD (ys.map (·.i)) n0 = D) := by
  show _ = _
  unfold atD
  rw [List.take_of_length_le (by rw [List.length_map, hyl]; exact Nat.le_refl _)]
  exact hD
 have HLF := hq hlife
 have hrfb : D.rf ≤ 1000000000 := by dsimp only [newD] at hrf; omega
 rw [hain]
 clear ho hi hb2 hys hok hyl HC0 HT hain hlife hrf hic hD
 go_wp2_with fail
 refine (runI ys HOK.out ain n0 cap0 HYL.out (by omega) D.p D.l D.al D.m D.t D.rf HDE.out _ HT2.out HRI.out).mono ?_
 rintro e w3 ⟨g4, n4, c4, t4, n0', d4, rfl, ho4, hu4, hb⟩
 obtain rfl : n0 = n0' := by have h1 := hu4.len; have h2 := HLF.out.len; omega
 have HC3 := hq hb
 have HG3 := hq ho4
 have HU3 := hq hu4
 have HNL : Hid (D.l.length = n4) := ho4.len
 have hcap : n0 ≤ d4 := hu4.cap'
 clear ho4 hu4 hb
 obtain ⟨b4, hb4⟩ : ∃ x, w3.heap.size = x := ⟨_, rfl⟩
 have HN : Hid ((w3.alloc (dZ)).heap[b4]? = some (dZ)) := by rw [← hb4]; exact heap_new w3 _
 go_wp2_with (refine listStoreD rfl rfl _ _ _ rfl rfl b4 (dR D.p (.slice (some ⟨g4, 0, none⟩) n4 c4) D.al D.m (.slice (some ⟨t4, 0, none⟩) n0 d4) D.rf) rfl rfl rfl (by kernel_rfl) HN.out rfl ?_)
 intro w4 hput
 have hb : Below w3.heap.size w3 w4 := hput.2.2.2 _ _ (by omega) (alM _ _)
 have HX4 := hq hput.1
 have HC4 : Hid (Below w2.heap.size w2 w4) := bel_on (Nat.le_refl _) HC3.out hb
 have HG4 := hq (HG3.out.on hb)
 have HU4 := hq (HU3.out.on hb)
 clear hput hb HN HC3 HG3 HU3 hb4
 go_wp2_with fail
 refine (runS ys HOK.out ain n0 cap0 HYL.out (by omega) D HDA.out _ (HRI.out.keep HC4.out (Nat.le_refl _))).mono ?_
 rintro e w5 ⟨A6, n6, c6, T6, d6, rfl, _, hg6, hu6, hl6, hb⟩
 obtain rfl : n4 = n6 := HNL.out.symm.trans hl6
 have HX5 := rq HX4 hb
 have HC5 : Hid (Below w2.heap.size w2 w5) := bel_on (Nat.le_refl _) HC4.out hb
 have HG5 := hq (HG4.out.on hb)
 have HU5 := hq (HU4.out.on hb)
 have HG65 := hq hg6
 have HU65 := hq hu6
 clear hb HX4 HC4 HG4 HU4 hg6 hu6 hl6
 obtain ⟨b6, hb6⟩ : ∃ x, w5.heap.size = x := ⟨_, rfl⟩
 have HN : Hid ((w5.alloc (dZ)).heap[b6]? = some (dZ)) := by rw [← hb6]; exact heap_new w5 _
 go_wp2_with (refine listStoreD rfl rfl _ _ _ rfl rfl b6 (dR D.p (.slice A6 n4 c6) D.al D.m (.slice T6 n0 d6) D.rf) rfl rfl rfl (by kernel_rfl) HN.out rfl ?_)
 intro w6 hput
 have hb : Below w5.heap.size w5 w6 := hput.2.2.2 _ _ (by omega) (alM _ _)
 have HX6 := rq HX5 hb
 have HY6 := hq hput.1
 have HC6 : Hid (Below w2.heap.size w2 w6) := bel_on (Nat.le_refl _) HC5.out hb
 have HG6 := hq (HG5.out.on hb)
 have HU6 := hq (HU5.out.on hb)
 have HU66 := hq (HU65.out.keep hb (Nat.le_refl _))
 clear hput hb HN HX5 HC5 HG5 HU5 HG65 HU65 hb6
 have hok := HLF.out.tru.ok
 have HLEN : Hid (D.t.length = n0) := HLF.out.len
 have HNN := HLF.out.tru.nn
 have HSP : Hid (∀ j, sumT (spL D.t j) ≤ 30) := fun j => span_le HLF.out.tru j
 have HSTP : Hid (D.t.all stopT = true) := stops_life HLF.out.tru
 have HGIV : Hid (D.p.g = sumT D.t) := HLF.out.giv
 have k4 := box17_cells HX6.out
 have k6 := box17_cells HY6.out
 have gP := pmpG
 have eP := pmp_eql D.p.s D.p.n D.p.d D.p.r D.p.l D.p.b D.p.g D.p.k
 go_wp2_with fail
 refine (sameTk (some ⟨t4, 0, none⟩) T6 D.t n0 d4 d6 HLEN.out (by omega) _ HU6.out.rd HU66.out).mono ?_
 rintro e w7 ⟨rfl, hb⟩
 have HX7 := rq HX6 hb
 have HY7 := rq HY6 hb
 have HC7 : Hid (Below w2.heap.size w2 w7) := bel_on (Nat.le_refl _) HC6.out hb
 have HG7 : Hid (G.Rd w7 (some ⟨g4, 0, none⟩) D.l) := (HG6.out.on hb).rd
 have HU7 : Hid (RdY w7 (some ⟨t4, 0, none⟩) D.t) := (HU6.out.on hb).rd
 clear hb HX6 HY6 HC6 HG6 HU6 HU66 k4 k6
 have k4 := box17_cells HX7.out
 have k6 := box17_cells HY7.out
 have hee : ((n0 : Int) == (n0 : Int)) = true := by simp
 go_wp2_with (refine loadWT (by rfl) _ _ rfl b4 rfl _ _ _ _ HX7.out Tryz.underlying37 rfl (by kernel_rfl) ?_)
 clear k4 k6 gP eP
 refine (soundI D.p (some ⟨g4, 0, none⟩) n4 c4 D.l D.al D.m (some ⟨t4, 0, none⟩) n0 d4 D.t D.rf hok HNL.out HLEN.out (by omega) hcap hrfb HNN HSP.out HSTP.out HGIV.out _ HG7.out HU7.out).mono ?_
 rintro e w8 ⟨rfl, hb⟩
 have HX8 := rq HX7 hb
 have HC8 : Hid (Below w2.heap.size w2 w8) := bel_on (Nat.le_refl _) HC7.out hb
 have HG8 := hq (HG7.out.keep hb (Nat.le_refl _))
 have HU8 := hq (HU7.out.keep hb (Nat.le_refl _))
 clear hb HX7 HY7 HC7 HG7 HU7
 go_wp2_with (refine loadWT (by rfl) _ _ rfl b4 rfl _ _ _ _ HX8.out Tryz.underlying37 rfl (by kernel_rfl) ?_)
 refine (soundS D.p (some ⟨g4, 0, none⟩) n4 c4 D.l D.al D.m (some ⟨t4, 0, none⟩) n0 d4 D.t D.rf hok HNL.out HLEN.out (by omega) hcap hrfb HNN HSP.out HSTP.out HGIV.out _ HG8.out HU8.out).mono ?_
 rintro e w9 ⟨rfl, hb⟩
 have HX9 := rq HX8 hb
 have HC9 : Hid (Below w2.heap.size w2 w9) := bel_on (Nat.le_refl _) HC8.out hb
 have HU9 := hq (HU8.out.keep hb (Nat.le_refl _))
 clear hb HX8 HC8 HG8 HU8
 have k4 := box17_cells HX9.out
 go_wp2_with fail
 have HIC : Hid ((runD newD (icS ys)).t = D.t) := by show (runD newD (ys.map (·.i))).t = D.t; rw [HDE.out]
 refine (latchedI ys HOK.out n0 HYL.out (by omega) (some ⟨t4, 0, none⟩) ain d4 cap0 _ (Q.tab_below HT2.out HC9.out) (by rw [HIC.out]; exact HU9.out) (HRI.out.keep HC9.out (Nat.le_refl _))).mono ?_
 rintro e w10 ⟨rfl, hb⟩
 have HF : Hid (Below w1.heap.size w1 w10) := bel_on (Nat.le_refl _) (bel_on (Nat.le_refl _) HB2.out HC9.out) hb
 clear hb k4 HX9 HC9 HU9
 go_wp2
 go_ret
 exact ⟨rfl, HF.out⟩
end Go.Proofs.YtfhhnelffldggaaGreatDoor
