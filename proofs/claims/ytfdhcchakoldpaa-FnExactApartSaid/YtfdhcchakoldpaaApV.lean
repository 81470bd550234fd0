/-
  What is to be seen of one part of a kernel, of the program: viewOf, isAs, Apart.
-/
import Derived.Test.YtfdhcchakoldpaaApI
import Derived.Deep.MidRow
import Derived.Great.BuildSlice
namespace Go.Proofs.Ytfdhcchakoldpaa.Ap
open Go.ChangeShapes Go.WideShapes Go.ChangeAt Go.RowKit Go.PlainAid
set_option linter.unusedVariables false

theorem alM (w : World) (o : Obj) : Below w.heap.size w (w.alloc o) := (Below.refl _ _).alloc (Nat.le_refl _) _
/-- what a store leaves: one row is another, all else is as it was -/
def PutM (w w' : World) (g : Nat) (o : Obj) : Prop := w'.heap[g]? = some o ∧ (∀ k, k ≠ g → w'.heap[k]? = w.heap[k]?) ∧ w'.heap.size = w.heap.size ∧ (∀ B W, B ≤ g → Below B W w → Below B W w')
theorem PutM.far {w w' : World} {g k : Nat} {o p : Obj} (h : PutM w w' g o) (hr : w.heap[k]? = some p) (hne : k ≠ g) : w'.heap[k]? = some p := (h.2.1 k hne).trans hr
theorem putM_row {w : World} {g : Nat} {cs old : Array Value} {T : TypeId} (hg : w.heap[g]? = some (.cells old T)) : PutM w (w.setRow g cs) g (.cells cs T) :=
  ⟨setRow_heap w g _ _ _ _ hg, fun k hk => setRow_other w g k _ hk, setRow_size w g _, fun B W hB hb => ⟨hb.os, hb.tape, hb.output, by rw [setRow_size]; exact hb.size, fun k hk => by rw [setRow_other w g k _ (by omega)]; exact hb.block k hk⟩⟩
theorem putM_set {w : World} {g i : Nat} {v : Value} {cs : Array Value} {T : TypeId} (hg : w.heap[g]? = some (.cells cs T)) : PutM w (w.setCell ⟨g, i, none⟩ v) g (.cells (cs.setIfInBounds i v) T) :=
  ⟨heap_setCell_same w g i _ _ v hg, fun k hk => Below.heap_setCell _ _ _ _ hk, by simp, fun B W hB hb => hb.setCell hB _⟩
def setsA : Array Value → Nat → List Value → Array Value
  | cs, _, [] => cs
  | cs, o, v :: r => setsA (cs.setIfInBounds o v) (o + 1) r
theorem PutM.trans {w w1 w2 : World} {g : Nat} {o1 o2 : Obj} (h : PutM w w1 g o1) (k : PutM w1 w2 g o2) : PutM w w2 g o2 :=
  ⟨k.1, fun i hi => (k.2.1 i hi).trans (h.2.1 i hi), k.2.2.1.trans h.2.2.1, fun B W hB hb => k.2.2.2 B W hB (h.2.2.2 B W hB hb)⟩
theorem putM_mid {T : TypeId} {g : Nat} : ∀ (vs : List Value) (o : Nat) (cs : Array Value) (w : World), w.heap[g]? = some (.cells cs T) → PutM w (w.setCells g o vs) g (.cells (setsA cs o vs) T)
  | [], o, cs, w, h => ⟨h, fun _ _ => rfl, rfl, fun _ _ _ hb => hb⟩
  | v :: r, o, cs, w, h => by
    have h1 : PutM w (w.setCell ⟨g, o, none⟩ v) g (.cells (cs.setIfInBounds o v) T) := putM_set h
    exact h1.trans (putM_mid r (o + 1) _ _ h1.1)
/-- a value of several cells stored into a row -/
theorem listStoreW {ops : Array Oper} {rest : List Oper} {o : Oper} {a : Act} {Q : Exit → Act → World → Prop} {w : World} (hgd : o.guard = none) (hd : o.dst = none) (x y : Operand) (ty : TypeId) (ho : o.op = .store ty x y)
    (g off : Nat) (vs : Array Value) (hx : a.eval x = .pointer (some ⟨g, off, none⟩)) (hy : a.eval y = .agg vs)
    {cs : Array Value} {T : TypeId} (hg : w.heap[g]? = some (.cells cs T)) (hin : off + vs.size ≤ cs.size) (hi : (Try.prog.info? ty).map (·.size) = some vs.size) (h1 : vs.all (·.oneCell') = true)
    (h : ∀ w' : World, PutM w w' g (.cells (setsA cs off vs.toList) T) → wpList Try.prog ops Q rest a w') : wpList Try.prog ops Q (o :: rest) a w := by
  refine wpList_store_mid hgd ty x y ho g off vs hx hy (fun j hj => ?_) hi h1 ?_
  · have hb : off + j < cs.size := by omega
    refine ⟨?_, ?_⟩
    · simp [World.cell?, hg, hb]
    · simp [World.frozen?, hg]
  · rw [hd]
    exact h _ (putM_mid _ _ _ _ hg)
theorem storeL_run {w : World} {g i n c : Nat} {q : Option Addr} {cs : Array Value} {T : TypeId} (hg : w.heap[g]? = some (.cells cs T)) (hi : i < cs.size) : (Instr.storeAt 31 (.pointer (some ⟨g, i, none⟩)) (.slice q n c)).run Try.prog w = .ok () (w.setCell ⟨g, i, none⟩ (.slice q n c)) := by
  have k1 : w.cell? ⟨g, i, none⟩ = some cs[i] := by simp [World.cell?, hg, hi]
  have k2 : w.frozen? ⟨g, i, none⟩ = false := by simp [World.frozen?, hg]
  simp [go_sem, Instr.storeAt, k1, k2]
/-- a list stored into a row -/
theorem listStoreN {ops : Array Oper} {rest : List Oper} {o : Oper} {a : Act} {Q : Exit → Act → World → Prop} {w : World} (hgd : o.guard = none) (hd : o.dst = none) (x y : Operand) (ty : TypeId) (ho : o.op = .store ty x y) (hty : ty = 31)
    (g i n c : Nat) (q : Option Addr) (hx : a.eval x = .pointer (some ⟨g, i, none⟩)) (hy : a.eval y = .slice q n c)
    {cs : Array Value} {T : TypeId} (hg : w.heap[g]? = some (.cells cs T)) (hi : i < cs.size)
    (h : ∀ w' : World, PutM w w' g (.cells (cs.setIfInBounds i (.slice q n c)) T) → wpList Try.prog ops Q rest a w') : wpList Try.prog ops Q (o :: rest) a w := by
  subst hty
  refine wpList_plain hgd fun _ hK => ?_
  unfold Oper.wp
  simp only [execOp, ho, hx, hy, Sem.run_bind, storeL_run hg hi, Result.andThen, Sem.run_pure]
  exact hK _ _ (by rw [hd]; exact h _ (putM_set hg))
/-- a struct stored into its own row -/
theorem listStoreP {ops : Array Oper} {rest : List Oper} {o : Oper} {a : Act} {Q : Exit → Act → World → Prop} {w : World} (hgd : o.guard = none) (hd : o.dst = none) (x y : Operand) (ty : TypeId) (ho : o.op = .store ty x y) (hty : ty = 110)
    (g : Nat) (vs : Array Value) (hx : a.eval x = .pointer (some ⟨g, 0, none⟩)) (hy : a.eval y = .agg vs) (hv : vs.size = 8) (h1 : vs.all (·.oneCell') = true)
    {cs : Array Value} (hg : w.heap[g]? = some (.cells cs 110)) (hs : cs.size = 8)
    (h : ∀ w' : World, PutM w w' g (.cells vs 110) → wpList Try.prog ops Q rest a w') : wpList Try.prog ops Q (o :: rest) a w := by
  subst hty
  refine wpList_store_rowTo hgd _ x y ho hd g _ hx hy _ _ hg (by rw [hv]; kernel_rfl) (by rw [hs, hv]) h1 ?_
  exact h _ (putM_row hg)
def viewV (st pc ss en la : Int) (q1 q2 q3 : Option Addr) (n1 c1 n2 c2 n3 c3 : Nat) : Array Value := #[.int .i64 st, .int .i64 pc, .slice q1 n1 c1, .int .i64 ss, .int .i64 en, .int .i64 la, .slice q2 n2 c2, .slice q3 n3 c3]
theorem ker_row (k : KH) (K : KX) : ∃ cs, KerV k K = .agg cs ∧ cs.size = 12 := ⟨_, rfl, rfl⟩
set_option maxRecDepth 100000 in
set_option maxHeartbeats 4000000 in
theorem viewOfI (k : KH) (K : KX) (p : Int) (Q : PX) (cl ol : List Int) (hv : ViewIs K p Q cl ol) (w : World) (h : RdK w k K) (hs : SmK k K) :
    Calls Try.prog 35 #[KerV k K, .int .i64 p] w fun e w' => ∃ q1 q2 q3, e = .returned (.agg #[.int .i64 Q.st, .int .i64 Q.pc, .slice q1 Q.sk.length Q.sk.length, .int .i64 Q.ss, .int .i64 Q.en, .int .i64 Q.la, .slice q2 cl.length cl.length, .slice q3 ol.length ol.length]) ∧ Rd w' q1 Q.sk ∧ Rd w' q2 cl ∧ Rd w' q3 ol ∧ Below w.heap.size w w' := by
  obtain ⟨cs, hcs, hsz⟩ := ker_row k K
  have VI0 := fun W hr => viewIX k K p Q cl ol hv W hr hs
  rw [hcs] at VI0 ⊢
  have VI : Hid (∀ W, RdK W k K → Calls Try.prog 91 #[.agg cs, .int .i64 p] W fun e w' => ∃ q1 q2 q3, e = .returned (.tuple #[.agg #[.int .i64 Q.st, .int .i64 Q.pc, .slice q1 Q.sk.length Q.sk.length, .int .i64 Q.ss, .int .i64 Q.en, .int .i64 Q.la], .slice q2 cl.length cl.length, .slice q3 ol.length ol.length]) ∧ (OwV w' W.heap.size q1 Q.sk ∧ OwV w' W.heap.size q2 cl ∧ OwV w' W.heap.size q3 ol ∧ DisV q1 q2 ∧ DisV q1 q3 ∧ DisV q2 q3) ∧ Below W.heap.size W w') := VI0
  obtain ⟨W1, hW1⟩ : ∃ W1, w.alloc (.cells cs 38) = W1 := ⟨_, rfl⟩
  have hs1 : W1.heap.size = w.heap.size + 1 := by rw [← hW1]; simp
  have HB1 : Hid (Below w.heap.size w W1) := by rw [← hW1]; exact alM _ _
  have HX1 : Hid (W1.heap[w.heap.size]? = some (.cells cs 38)) := by rw [← hW1]; exact heap_new w _
  obtain ⟨W2, hW2⟩ : ∃ W2, W1.alloc (.cells #[.int .i64 0, .int .i64 0, .slice none 0 0, .int .i64 0, .int .i64 0, .int .i64 0, .slice none 0 0, .slice none 0 0] 110) = W2 := ⟨_, rfl⟩
  have hs2 : W2.heap.size = w.heap.size + 2 := by rw [← hW2]; simp; omega
  have HB2 : Hid (Below w.heap.size w W2) := by rw [← hW2]; exact bel_on (Nat.le_refl _) HB1.out (alM _ _)
  have HX2 : Hid (W2.heap[w.heap.size]? = some (.cells cs 38)) := by rw [← hW2]; exact row_on HX1.out (alM _ _)
  have HR2 : Hid (W2.heap[w.heap.size + 1]? = some (.cells #[.int .i64 0, .int .i64 0, .slice none 0 0, .int .i64 0, .int .i64 0, .int .i64 0, .slice none 0 0, .slice none 0 0] 110)) := by rw [← hW2, ← hs1]; exact heap_new W1 _
  obtain ⟨W3, hW3⟩ : ∃ W3, W2.alloc (.cells #[.int .i64 0, .int .i64 0, .slice none 0 0, .int .i64 0, .int .i64 0, .int .i64 0, .slice none 0 0, .slice none 0 0] 110) = W3 := ⟨_, rfl⟩
  have HB3 : Hid (Below w.heap.size w W3) := by rw [← hW3]; exact bel_on (Nat.le_refl _) HB2.out (alM _ _)
  have HX3 : Hid (W3.heap[w.heap.size]? = some (.cells cs 38)) := by rw [← hW3]; exact row_on HX2.out (alM _ _)
  have HR3 : Hid (W3.heap[w.heap.size + 1]? = some (.cells #[.int .i64 0, .int .i64 0, .slice none 0 0, .int .i64 0, .int .i64 0, .int .i64 0, .slice none 0 0, .slice none 0 0] 110)) := by rw [← hW3]; exact row_on HR2.out (alM _ _)
  have HV3 : Hid (W3.heap[w.heap.size + 2]? = some (.cells #[.int .i64 0, .int .i64 0, .slice none 0 0, .int .i64 0, .int .i64 0, .int .i64 0, .slice none 0 0, .slice none 0 0] 110)) := by rw [← hW3, ← hs2]; exact heap_new W2 _
  have HRK : Hid (RdK W3 k K) := h.keep HB3.out (Nat.le_refl _)
  clear VI0 h hcs hv
  obtain ⟨st, pc, sk, ss, en, la⟩ := Q
  dsimp only at VI ⊢
  obtain ⟨m, hm⟩ : ∃ m, sk.length = m := ⟨_, rfl⟩
  obtain ⟨n2, hn2⟩ : ∃ m, cl.length = m := ⟨_, rfl⟩
  obtain ⟨n3, hn3⟩ : ∃ m, ol.length = m := ⟨_, rfl⟩
  rw [hm, hn2, hn3] at VI ⊢
  clear hm hn2 hn3
  go_enter Try.func35, Try.ntmps35
  go_upto_region 2 with fail
  have hs3 : W3.heap.size = w.heap.size + 3 := by rw [← hW3]; simp; omega
  clear hW1 hW2 hW3 hs1 hs2 HB1 HB2 HX1 HX2 HR2 
  go_wp2_with (refine wpList_load_row rfl _ _ rfl w.heap.size rfl _ _ _ _ HX3.out Try.underlying38 rfl (by rw [hsz]; kernel_rfl) ?_)
  refine (VI.out _ HRK.out).mono ?_
  rintro e w4 ⟨q1, q2, q3, rfl, ⟨o1, o2, o3, _, _, _⟩, hb4⟩
  rw [hs3] at o1 o2 o3
  have HB4 : Hid (Below w.heap.size w w4) := bel_on (Nat.le_refl _) HB3.out hb4
  have HR4 : Hid (w4.heap[w.heap.size + 1]? = some (.cells #[.int .i64 0, .int .i64 0, .slice none 0 0, .int .i64 0, .int .i64 0, .int .i64 0, .slice none 0 0, .slice none 0 0] 110)) := row_on HR3.out hb4
  have HV4 : Hid (w4.heap[w.heap.size + 2]? = some (.cells #[.int .i64 0, .int .i64 0, .slice none 0 0, .int .i64 0, .int .i64 0, .int .i64 0, .slice none 0 0, .slice none 0 0] 110)) := row_on HV3.out hb4
  have O1 : Hid (OwV w4 (w.heap.size + 3) q1 sk) := o1
  have O2 : Hid (OwV w4 (w.heap.size + 3) q2 cl) := o2
  have O3 : Hid (OwV w4 (w.heap.size + 3) q3 ol) := o3
  clear o1 o2 o3 hb4 HB3 HR3 HV3 HX3 HRK VI hs3
  go_wp2_with (refine listStoreW rfl rfl _ _ _ rfl (w.heap.size + 2) 0 #[.int .i64 st, .int .i64 pc, .slice q1 m m, .int .i64 ss, .int .i64 en, .int .i64 la] rfl rfl HV4.out (by simp) (by kernel_rfl) (by kernel_rfl) ?_)
  intro w5 hp5
  have HV5 : Hid (w5.heap[w.heap.size + 2]? = some (.cells #[.int .i64 st, .int .i64 pc, .slice q1 m m, .int .i64 ss, .int .i64 en, .int .i64 la, .slice none 0 0, .slice none 0 0] 110)) := hp5.1
  have P5 : Hid (PutM w4 w5 (w.heap.size + 2) _) := hp5
  clear hp5
  go_wp2_with (refine listStoreN rfl rfl _ _ _ rfl rfl (w.heap.size + 2) 6 n2 n2 q2 rfl rfl HV5.out (by simp) ?_)
  intro w6 hp6
  have HV6 : Hid (w6.heap[w.heap.size + 2]? = some (.cells #[.int .i64 st, .int .i64 pc, .slice q1 m m, .int .i64 ss, .int .i64 en, .int .i64 la, .slice q2 n2 n2, .slice none 0 0] 110)) := hp6.1
  have P6 : Hid (PutM w4 w6 (w.heap.size + 2) _) := P5.out.trans hp6
  clear hp6 P5 HV5
  go_wp2_with (refine listStoreN rfl rfl _ _ _ rfl rfl (w.heap.size + 2) 7 n3 n3 q3 rfl rfl HV6.out (by simp) ?_)
  intro w7 hp7
  have HV7 : Hid (w7.heap[w.heap.size + 2]? = some (.cells #[.int .i64 st, .int .i64 pc, .slice q1 m m, .int .i64 ss, .int .i64 en, .int .i64 la, .slice q2 n2 n2, .slice q3 n3 n3] 110)) := hp7.1
  have P7 : Hid (PutM w4 w7 (w.heap.size + 2) _) := P6.out.trans hp7
  have HR7 : Hid (w7.heap[w.heap.size + 1]? = some (.cells #[.int .i64 0, .int .i64 0, .slice none 0 0, .int .i64 0, .int .i64 0, .int .i64 0, .slice none 0 0, .slice none 0 0] 110)) := P7.out.far HR4.out (by omega)
  clear hp7 P6 HV6 HV4
  go_wp2_with (first | refine wpList_load_row rfl _ _ rfl (w.heap.size + 2) rfl _ _ _ _ HV7.out Try.underlying110 rfl (by kernel_rfl) ?_ | refine listStoreP rfl rfl _ _ _ rfl rfl (w.heap.size + 1) #[.int .i64 st, .int .i64 pc, .slice q1 m m, .int .i64 ss, .int .i64 en, .int .i64 la, .slice q2 n2 n2, .slice q3 n3 n3] rfl rfl rfl (by kernel_rfl) HR7.out rfl ?_)
  intro w8 hp8
  have HR8 : Hid (w8.heap[w.heap.size + 1]? = some (.cells #[.int .i64 st, .int .i64 pc, .slice q1 m m, .int .i64 ss, .int .i64 en, .int .i64 la, .slice q2 n2 n2, .slice q3 n3 n3] 110)) := hp8.1
  have kf : ∀ {q : Option Addr} {l : List Int}, OwV w4 (w.heap.size + 3) q l → Rd w8 q l := fun {q l} h => ((h.keep (fun a ha _ => P7.out.2.1 a.block (by have := h.ge a ha; omega))).keep (fun a ha _ => hp8.2.1 a.block (by have := h.ge a ha; omega))).rd
  have HB8 : Hid (Below w.heap.size w w8) := hp8.2.2.2 _ _ (by omega) (P7.out.2.2.2 _ _ (by omega) HB4.out)
  have R1 : Hid (Rd w8 q1 sk) := kf O1.out
  have R2 : Hid (Rd w8 q2 cl) := kf O2.out
  have R3 : Hid (Rd w8 q3 ol) := kf O3.out
  clear kf hp8 P7 O1 O2 O3 HB4 HR4 HV7 HR7
  go_wp2
  refine bodyPost_ret (v := .agg #[.int .i64 st, .int .i64 pc, .slice q1 m m, .int .i64 ss, .int .i64 en, .int .i64 la, .slice q2 n2 n2, .slice q3 n3 n3]) (results_cell_row Try.results35 _ _ (w.heap.size + 1) _ _ _ _ rfl HR8.out Try.underlying110 rfl (by kernel_rfl)) rfl ⟨q1, q2, q3, rfl, R1.out, R2.out, R3.out, HB8.out⟩
end Go.Proofs.Ytfdhcchakoldpaa.Ap
