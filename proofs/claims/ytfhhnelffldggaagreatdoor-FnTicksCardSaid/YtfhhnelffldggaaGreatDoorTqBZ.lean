/-
  FnTicks over bytes that are few enough.
-/
import Derived.Test.YtfhhnelffldggaaGreatDoorTqAC
import Derived.Test.YtfhhnelffldggaaGreatDoorTqBQ
import Derived.Test.YtfhhnelffldggaaGreatDoorTqBU
import Derived.Test.YtfhhnelffldggaaGreatDoorTqBX
import Derived.Test.YtfhhnelffldggaaGreatDoorTqBP
import Derived.Test.YtfhhnelffldggaaGreatDoorTqAY
import Derived.Test.YtfhhnelffldggaaGreatDoorTqBY
set_option maxRecDepth 100000
set_option maxHeartbeats 16000000
namespace Go.Proofs.YtfhhnelffldggaaGreatDoor
open Go.ChangeShapes Go.WideShapes Go.ChangeAt Go.RowKit Go.Deep Go.PlainAid
set_option linter.unusedVariables false
set_option linter.unusedSimpArgs false
theorem hq {p : Prop} (h : p) : Hid p := h
theorem loadWT {ops : Array Oper} {rest : List Oper} {o : Oper} {a : Act} {w : World} {Q : Exit → Act → World → Prop} (hw : Region.wanted o (yielded ops a.tmps) = true) (ty : TypeId) (x : Operand) (ho : o.op = .load ty x)
    (g : Nat) (hx : a.eval x = .pointer (some ⟨g, 0, none⟩)) (t : TypeId) (cs : Array Value) (fr : Nat × Nat) (d : TypeDesc) (hg : w.heap[g]? = some (.cells cs t fr))
    (hu : Tryz.prog.underlying ty = some d) (hd : (match d with | .struct _ | .array _ _ => true | _ => false) = true) (hi : (Tryz.prog.info? ty).map (·.size) = some cs.size)
    (h : wpList Tryz.prog ops Q rest (a.put o.dst (.agg cs)) w) : wpList Tryz.prog ops Q (o :: rest) a w :=
  BigFrame.wpList_want hw fun _ hK => wp_load_row ty x ho g hx t cs fr d hg hu (by cases d <;> first | rfl | (cases hd)) hi (hK _ _ h)
theorem OwnGN.nil {w : World} {B : Nat} {A : Option Addr} {nn c : Nat} {l : List Int} (h : OwnGN w B A nn c l) : A = none → nn = 0 ∧ c = 0 := by
  rcases h with ⟨_, h1, h2, _⟩ | ⟨g, rfl, _⟩
  · exact fun _ => ⟨h1, h2⟩
  · exact fun e => by cases e
theorem OwnUN.nil {w : World} {B : Nat} {A : Option Addr} {nn c : Nat} {l : List Tk3} (h : OwnUN w B A nn c l) : A = none → nn = 0 ∧ c = 0 := by
  rcases h with ⟨_, h1, h2, _⟩ | ⟨g, rfl, _⟩
  · exact fun _ => ⟨h1, h2⟩
  · exact fun e => by cases e
def TcR (ys : List Inp) (w2 : World) (b4 b5 j : Nat) (W : World) : Prop := (∃ (D : Dv) (n : Nat) (A : Option Addr) (c : Nat) (T : Option Addr) (ct : Nat) (A' : Option Addr) (c' : Nat) (T' : Option Addr) (ct' : Nat), Hid (atD (ys.map (·.i)) j = D) ∧ Hid (W.heap[b4]? = some (dO D.p (.slice A n c) D.al D.m (.slice T j ct) D.rf)) ∧ Hid (W.heap[b5]? = some (dO D.p (.slice A' n c') D.al D.m (.slice T' j ct') D.rf)) ∧ Hid (OwnGN W (b5 + 1) A n c D.l ∧ OwnUN W (b5 + 1) T j ct D.t) ∧ Hid (OwnGN W (b5 + 1) A' n c' D.l ∧ OwnUN W (b5 + 1) T' j ct' D.t) ∧ Hid (D.l.length = n) ∧ Hid (Below w2.heap.size w2 W))
theorem ticks_in (a : Option Addr) (len cap : Nat) (hb : len ≤ 1048576) (w : World) (hcode : CodeOk w w.heap.size a len) (ht : Q.Tab w) :
    Calls Tryz.prog 4 #[.slice a len cap] w fun e w' => e = .returned (.bool true) ∧ Below w.heap.size w w' := by
  have HC0 := hq hcode
  have HT := hq ht
  clear hcode ht
  go_enter Tryz.func4, Tryz.ntmps4
  go_wp2_with fail
  refine (big5 a len cap (by omega) _).mono ?_
  rintro e w1 ⟨rfl, rfl⟩
  rw [decide_eq_false (by omega)]
  go_wp2_with fail
  refine (drawIns a len cap _ HC0.out).mono ?_
  rintro e w2 ⟨g, n0, cap0, l, rfl, ho, hi, hn, hb2⟩
  obtain ⟨ys, hys, hok⟩ := inps_of l hi
  have hyl : ys.length = n0 := by have := ho.len; rw [← hys] at this; simpa using this
  obtain ⟨ain, hain⟩ : ∃ x, (some ⟨g, 0, none⟩ : Option Addr) = x := ⟨_, rfl⟩
  have HRI : Hid (RdZ w2 ain (ys.map Inp.t3)) := by show RdZ _ _ _; rw [hys, ← hain]; exact ho.rd
  have HAN : Hid (ain ≠ none) := by show _; rw [← hain]; exact fun h => by cases h
  have HB2 := hq hb2
  have HT2 : Hid (Q.Tab w2) := Q.tab_below HT.out HB2.out
  have HOK := hq hok
  have HYL := hq hyl
  rw [hain]
  clear ho hi hb2 hys hok hyl HC0 HT hain
  go_wp2_with fail
  refine (dnewI _).mono ?_
  rintro e w3 ⟨rfl, hb3⟩
  have HC3 := hq hb3
  clear hb3
  obtain ⟨b4, hb4⟩ : ∃ x, w3.heap.size = x := ⟨_, rfl⟩
  have hb24 : w2.heap.size ≤ b4 := by rw [← hb4]; exact HC3.out.size
  have HN : Hid ((w3.alloc (dZ)).heap[b4]? = some (dZ)) := by rw [← hb4]; exact heap_new w3 _
  go_wp2_with (refine listStoreD rfl rfl _ _ _ rfl rfl b4 #[.int .i64 0, .int .i64 0, .int .i64 1, .int .i64 0, .int .i64 0, .int .i64 0, .int .i64 0, .int .i64 0, .slice none 0 0, .int .i64 0, .int .i64 1, .bool false, .int .i64 0, .int .i64 0, .string ⟨#[]⟩, .slice none 0 0, .int .i64 0] rfl rfl rfl (by kernel_rfl) HN.out rfl ?_)
  intro w4 hput
  have hb : Below w3.heap.size w3 w4 := hput.2.2.2 _ _ (by omega) (alM _ _)
  have HX4 := hq hput.1
  have HC4 := hq (bel_on (Nat.le_refl _) HC3.out hb)
  clear hput hb HN HC3 hb4
  go_wp2_with fail
  refine (dnewS _).mono ?_
  rintro e w5 ⟨rfl, hb3⟩
  have HX5 := hq (row_on HX4.out hb3)
  have HC5 := hq (bel_on (Nat.le_refl _) HC4.out hb3)
  clear hb3 HX4 HC4
  obtain ⟨b5, hb5⟩ : ∃ x, w5.heap.size = x := ⟨_, rfl⟩
  have hb45 : b4 < b5 := by rw [← hb5]; exact row_lt HX5.out
  have HN : Hid ((w5.alloc (dZ)).heap[b5]? = some (dZ)) := by rw [← hb5]; exact heap_new w5 _
  go_wp2_with (refine listStoreD rfl rfl _ _ _ rfl rfl b5 #[.int .i64 0, .int .i64 0, .int .i64 1, .int .i64 0, .int .i64 0, .int .i64 0, .int .i64 0, .int .i64 0, .slice none 0 0, .int .i64 0, .int .i64 1, .bool false, .int .i64 0, .int .i64 0, .string ⟨#[]⟩, .slice none 0 0, .int .i64 0] rfl rfl rfl (by kernel_rfl) HN.out rfl ?_)
  intro w6 hput
  have hb : Below w5.heap.size w5 w6 := hput.2.2.2 _ _ (by omega) (alM _ _)
  have HX6 := hq (row_on HX5.out hb)
  have HY6 := hq hput.1
  have HC6 := hq (bel_on (Nat.le_refl _) HC5.out hb)
  have hb25 : w2.heap.size ≤ b5 := by omega
  clear hput hb HN HX5 HC5 hb5
  have HI : Hid (TcR ys w2 b4 b5 0 w6) := ⟨newD, 0, none, 0, none, 0, none, 0, none, 0, atD_zero _, HX6.out, HY6.out, ⟨.inl ⟨rfl, rfl, rfl, rfl⟩, .inl ⟨rfl, rfl, rfl, rfl⟩⟩, ⟨.inl ⟨rfl, rfl, rfl, rfl⟩, .inl ⟨rfl, rfl, rfl, rfl⟩⟩, rfl, HC6.out⟩
  clear HX6 HY6 HC6
  go_wp2_with fail
  go_loopg [6] n0 (fun gk v6 wr => ∃ (j : Nat), j + gk = n0 ∧ v6 = .int .i64 j ∧ Hid (TcR ys w2 b4 b5 j wr))
  case atStart => exact ⟨0, by omega, rfl, HI⟩
  case round =>
    clear HI
    obtain ⟨j, hj, rfl, HI⟩ := hrel
    obtain ⟨D, n, A, c, T, ct, A', c', T', ct', HDj, HX, HY, HP, HQ, HNL, HC⟩ := HI.out
    clear HI
    have hall : ∀ i ∈ (ys.map (·.i)), i.ok := fun i hi => by
      obtain ⟨y, hy, rfl⟩ := List.mem_map.1 hi
      exact (HOK.out y hy).ic
    have htn : D.t.length = j := by have h := atD_len (l := (ys.map (·.i))) (j := j) (by rw [List.length_map, HYL.out]; omega); rw [HDj.out] at h; exact h
    have htn0 : Hid (D.t.length = j) := htn
    by_cases hlt : j < n0
    · have hjl : j < ys.length := by rw [HYL.out]; exact hlt
      obtain ⟨gi, off, hgi, hc⟩ := HRI.out (by rw [List.length_map, HYL.out]; omega)
      have c3 := hc j (by rw [List.length_map]; exact hjl)
      obtain ⟨q, hq⟩ : ∃ x, ys[j] = x := ⟨_, rfl⟩
      rw [List.getElem_map, hq] at c3
      unfold Inp.t3 at c3
      dsimp only at c3
      have hgl : gi < w2.heap.size := World.block_lt_of_cell? w2 ⟨gi, off + j * 3, none⟩ c3.1
      have hg4 : gi ≠ b4 := by omega
      have hg5 : gi ≠ b5 := by omega
      have z0 := (HC.out.cell (p := ⟨gi, off + j * 3, none⟩) hgl).trans c3.1
      have z1 := (HC.out.cell (p := ⟨gi, off + j * 3 + 1, none⟩) hgl).trans c3.2.1
      have z2 := (HC.out.cell (p := ⟨gi, off + j * 3 + 2, none⟩) hgl).trans c3.2.2
      have hxo : q.ok := by have h := HOK.out _ (List.getElem_mem hjl); rw [hq] at h; exact h
      have hjm : j < (ys.map (·.i)).length := by rw [List.length_map]; exact hjl
      have hDo : Dv.ok ⟨D.p, D.l, D.al, D.m, D.t, D.rf⟩ := by have h := atD_ok hall j; rw [HDj.out] at h; exact h
      have hrf : D.rf ≤ 3300 := by
        have h := (run_okD ((ys.map (·.i)).take j) newD_ok (fun i hi => hall i (List.mem_of_mem_take hi))).2.2
        rw [show runD newD ((ys.map (·.i)).take j) = D from HDj.out, List.length_take] at h
        dsimp only [newD] at h
        omega
      have hln : D.l.length = n := HNL.out
      have hms : D.m.s.length ≤ 1048576 := by
        have h := hDo.m.1
        unfold okM at h
        simp at h
        omega
      obtain ⟨D', hD'⟩ : ∃ y, tickD ⟨D.p, D.l, D.al, D.m, D.t, D.rf⟩ q.i = y := ⟨_, rfl⟩
      have HD' : Hid (tickD ⟨D.p, D.l, D.al, D.m, D.t, D.rf⟩ q.i = D') := hD'
      have HDn : Hid (atD (ys.map (·.i)) (j + 1) = D') := by
        show _ = _
        rw [atD_succ hjm, HDj.out, List.getElem_map, hq]
        exact hD'
      have HDL : Hid (D'.t.length = j + 1) := by have h := atD_len (l := (ys.map (·.i))) (j := j + 1) hjm; rw [HDn.out] at h; exact h
      have HDO : Hid D'.ok := by have h := atD_ok hall (j + 1); rw [HDn.out] at h; exact h
      have HRF : Hid (D'.rf ≤ 3400) := by
        have h := (run_okD ((ys.map (·.i)).take (j + 1)) newD_ok (fun i hi => hall i (List.mem_of_mem_take hi))).2.2
        rw [show runD newD ((ys.map (·.i)).take (j + 1)) = D' from HDn.out, List.length_take] at h
        dsimp only [newD] at h
        show _ ≤ _
        omega
      have j0 : (0 : Int) ≤ j := by omega
      have j1 : (j : Int) < n0 := by omega
      have qj : IntKind.i64.wrap ((j : Int) + 1) = (j : Int) + 1 := wrap_in (by omega) (by omega)
      subst hgi
      clear hc c3 hD' hall hq HDj HNL hjm hjl
      go_upto_region 9 with fail
      have HK : SRn gi off j q.i.b q.K q.L wr.drew := ⟨z0, z1, z2⟩
      refine wp_region_held_drew (S := fun w' => SRn gi off j q.i.b q.K q.L w') (by kernel_rfl) HK (fun hHeld => ?_)
      obtain ⟨v0, hv0⟩ : ∃ v0, wr.drew = v0 := ⟨_, rfl⟩
      have hd0 : Below wr.heap.size wr v0 := by rw [← hv0]; exact (Below.refl _ _).drew
      have HC5 := hq (bel_on (Nat.le_refl _) HC.out hd0)
      have HX5 := hq (row_on HX.out hd0)
      have HY5 := hq (row_on HY.out hd0)
      have HP5 : Hid (OwnGN v0 (b5 + 1) A n c D.l ∧ OwnUN v0 (b5 + 1) T j ct D.t) := ⟨HP.out.1.on hd0, HP.out.2.on hd0⟩
      have HQ5 : Hid (OwnGN v0 (b5 + 1) A' n c' D.l ∧ OwnUN v0 (b5 + 1) T' j ct' D.t) := ⟨HQ.out.1.on hd0, HQ.out.2.on hd0⟩
      rw [hv0] at HK hHeld ⊢
      clear HC HX HY HP HQ z0 z1 z2 hv0 hd0
      try simp only [Act.put, sQ1, sQ2, sQ3, sQ4, sQ5, sQ6]
      refine tkQ 1 ?_ rfl (by kernel_rfl) (fun _ _ _ h => h) (by rfl) ?_ (by assumption) ?_
      rotate_left
      · intro w_ hSw; obtain ⟨f0, f1, f2⟩ := hSw; (try clear hHeld); go_simp <;> with_reducible rfl
      try simp only [Act.put, sQ1, sQ2, sQ3, sQ4, sQ5, sQ6]
      refine tkQ 2 ?_ rfl (by kernel_rfl) (fun _ _ _ h => h) (by rfl) ?_ (by assumption) ?_
      rotate_left
      · intro w_ hSw; obtain ⟨f0, f1, f2⟩ := hSw; (try clear hHeld); go_simp <;> with_reducible rfl
      try simp only [Act.put, sQ1, sQ2, sQ3, sQ4, sQ5, sQ6]
      refine tkQ 3 ?_ rfl (by kernel_rfl) (fun _ _ _ h => h) (by rfl) ?_ (by assumption) ?_
      rotate_left
      · intro w_ hSw; obtain ⟨f0, f1, f2⟩ := hSw; (try clear hHeld); go_simp <;> with_reducible rfl
      try simp only [Act.put, sQ1, sQ2, sQ3, sQ4, sQ5, sQ6]
      refine tkQ 4 ?_ rfl (by kernel_rfl) (fun _ _ _ h => h) (by rfl) ?_ (by assumption) ?_
      rotate_left
      · intro w_ hSw; obtain ⟨f0, f1, f2⟩ := hSw; (try clear hHeld); go_simp <;> with_reducible rfl
      try simp only [Act.put, sQ1, sQ2, sQ3, sQ4, sQ5, sQ6]
      refine wpAnyH_ready (rs := [0]) (by kernel_rfl) (by simp) ?_
      refine AllReadyH.cons rfl (fun J hJ => ?_) AllReadyH.nil
      refine loadR_any rfl _ _ rfl b4 rfl _ _ _ _ HX5.out Tryz.underlying37 rfl (by kernel_rfl) ?_
      refine hJ.out _ _ HK (fun hHeld1 => ?_)
      clear hJ J hHeld
      try simp only [Act.put, sQ1, sQ2, sQ3, sQ4, sQ5, sQ6]
      refine wpAnyH_ready (rs := [5]) (by kernel_rfl) (by simp) ?_
      refine AllReadyH.cons rfl (fun J hJ => ?_) AllReadyH.nil
      go_simp
      go_at_call 16
      refine (tkdIR D.p A n c D.l D.al D.m T j ct D.t D.rf q hxo hDo hln htn (by omega) (by omega) hms D'.p D'.l D'.al D'.m D'.t D'.rf HD'.out _ (Q.tab_below HT2.out HC5.out) HP5.out.1.rd HP5.out.2.rd).mono ?_
      rintro e w3 ⟨g2, n2, c2, gt2, tn2, ct2, rfl, ho2, hu2, hb2⟩
      obtain rfl : tn2 = j + 1 := by have h1 := hu2.len; have h2 := HDL.out; omega
      have HK2 : SRn gi off j q.i.b q.K q.L w3 := HK.on hb2
      have HC3 := hq (bel_on (Nat.le_refl _) HC5.out hb2)
      have HX3 := hq (row_on HX5.out hb2)
      have HY3 := hq (row_on HY5.out hb2)
      have HQ3 : Hid (OwnGN w3 (b5 + 1) A' n c' D.l ∧ OwnUN w3 (b5 + 1) T' j ct' D.t) := ⟨HQ5.out.1.on hb2, HQ5.out.2.on hb2⟩
      have hlt5 := row_lt HY5.out
      have HP3 : Hid (OwnGN w3 (b5 + 1) (some ⟨g2, 0, none⟩) n2 c2 D'.l ∧ OwnUN w3 (b5 + 1) (some ⟨gt2, 0, none⟩) (j + 1) ct2 D'.t) := ⟨.inr ⟨g2, rfl, ho2.mono hlt5⟩, .inr ⟨gt2, rfl, hu2.mono hlt5⟩⟩
      have HN2 : Hid (D'.l.length = n2) := ho2.len
      clear hb2 ho2 hu2 HC5 HX5 HY5 HP5 HQ5 hlt5
      (try go_wp2_with fail)
      refine hJ.out _ _ HK2 (fun hHeld2 => ?_)
      clear hJ J hHeld1 HK
      try simp only [Act.put, sQ1, sQ2, sQ3, sQ4, sQ5, sQ6]
      refine wpAnyH_ready (rs := [6]) (by kernel_rfl) (by simp) ?_
      refine AllReadyH.cons rfl (fun J hJ => ?_) AllReadyH.nil
      refine storeR_any rfl rfl _ _ _ rfl b4 (dR D'.p (.slice (some ⟨g2, 0, none⟩) n2 c2) D'.al D'.m (.slice (some ⟨gt2, 0, none⟩) (j + 1) ct2) D'.rf) rfl rfl (by kernel_rfl) (by kernel_rfl) HX3.out rfl ?_
      intro w4 hput
      have HX := hq hput.1
      have HY := hq (hput.far HY3.out (by omega))
      have HC : Hid (Below w2.heap.size w2 w4) := hput.2.2.2 _ _ hb24 HC3.out
      have hsm : ∀ g, b5 + 1 ≤ g → g < w3.heap.size → w4.heap[g]? = w3.heap[g]? := fun g hg _ => hput.2.1 g (by omega)
      have HP : Hid (OwnGN w4 (b5 + 1) (some ⟨g2, 0, none⟩) n2 c2 D'.l ∧ OwnUN w4 (b5 + 1) (some ⟨gt2, 0, none⟩) (j + 1) ct2 D'.t) := ⟨HP3.out.1.same hsm, HP3.out.2.same hsm⟩
      have HQ : Hid (OwnGN w4 (b5 + 1) A' n c' D.l ∧ OwnUN w4 (b5 + 1) T' j ct' D.t) := ⟨HQ3.out.1.same hsm, HQ3.out.2.same hsm⟩
      have HK3 : SRn gi off j q.i.b q.K q.L w4 := HK2.same (hput.2.1 gi hg4)
      refine hJ.out _ _ HK3 (fun hHeld3 => ?_)
      clear hJ J hHeld2 hHeld3 HK2 hput hsm HX3 HY3 HC3 HP3 HQ3
      try simp only [Act.put, sQ1, sQ2, sQ3, sQ4, sQ5, sQ6]
      refine wpAnyH_done (by kernel_rfl) ?_ _
      obtain ⟨z0, z1, z2⟩ := HK3
      go_upto_region 10 with fail
      have HK : SRn gi off j q.i.b q.K q.L w4.drew := ⟨z0, z1, z2⟩
      refine wp_region_held_drew (S := fun w' => SRn gi off j q.i.b q.K q.L w') (by kernel_rfl) HK (fun hHeld => ?_)
      obtain ⟨v0, hv0⟩ : ∃ v0, w4.drew = v0 := ⟨_, rfl⟩
      have hd0 : Below w4.heap.size w4 v0 := by rw [← hv0]; exact (Below.refl _ _).drew
      have HC5 := hq (bel_on (Nat.le_refl _) HC.out hd0)
      have HX5 := hq (row_on HY.out hd0)
      have HY5 := hq (row_on HX.out hd0)
      have HP5 : Hid (OwnGN v0 (b5 + 1) (some ⟨g2, 0, none⟩) n2 c2 D'.l ∧ OwnUN v0 (b5 + 1) (some ⟨gt2, 0, none⟩) (j + 1) ct2 D'.t) := ⟨HP.out.1.on hd0, HP.out.2.on hd0⟩
      have HQ5 : Hid (OwnGN v0 (b5 + 1) A' n c' D.l ∧ OwnUN v0 (b5 + 1) T' j ct' D.t) := ⟨HQ.out.1.on hd0, HQ.out.2.on hd0⟩
      rw [hv0] at HK hHeld ⊢
      clear HC HY HX HP HQ z0 z1 z2 hv0 hd0
      try simp only [Act.put, sQ1, sQ2, sQ3, sQ4, sQ5, sQ6]
      refine tkQ 1 ?_ rfl (by kernel_rfl) (fun _ _ _ h => h) (by rfl) ?_ (by assumption) ?_
      rotate_left
      · intro w_ hSw; obtain ⟨f0, f1, f2⟩ := hSw; (try clear hHeld); go_simp <;> with_reducible rfl
      try simp only [Act.put, sQ1, sQ2, sQ3, sQ4, sQ5, sQ6]
      refine tkQ 2 ?_ rfl (by kernel_rfl) (fun _ _ _ h => h) (by rfl) ?_ (by assumption) ?_
      rotate_left
      · intro w_ hSw; obtain ⟨f0, f1, f2⟩ := hSw; (try clear hHeld); go_simp <;> with_reducible rfl
      try simp only [Act.put, sQ1, sQ2, sQ3, sQ4, sQ5, sQ6]
      refine tkQ 3 ?_ rfl (by kernel_rfl) (fun _ _ _ h => h) (by rfl) ?_ (by assumption) ?_
      rotate_left
      · intro w_ hSw; obtain ⟨f0, f1, f2⟩ := hSw; (try clear hHeld); go_simp <;> with_reducible rfl
      try simp only [Act.put, sQ1, sQ2, sQ3, sQ4, sQ5, sQ6]
      refine tkQ 4 ?_ rfl (by kernel_rfl) (fun _ _ _ h => h) (by rfl) ?_ (by assumption) ?_
      rotate_left
      · intro w_ hSw; obtain ⟨f0, f1, f2⟩ := hSw; (try clear hHeld); go_simp <;> with_reducible rfl
      try simp only [Act.put, sQ1, sQ2, sQ3, sQ4, sQ5, sQ6]
      refine wpAnyH_ready (rs := [0]) (by kernel_rfl) (by simp) ?_
      refine AllReadyH.cons rfl (fun J hJ => ?_) AllReadyH.nil
      refine loadR_any rfl _ _ rfl b5 rfl _ _ _ _ HX5.out Tryz.underlying37 rfl (by kernel_rfl) ?_
      refine hJ.out _ _ HK (fun hHeld1 => ?_)
      clear hJ J hHeld
      try simp only [Act.put, sQ1, sQ2, sQ3, sQ4, sQ5, sQ6]
      refine wpAnyH_ready (rs := [5]) (by kernel_rfl) (by simp) ?_
      refine AllReadyH.cons rfl (fun J hJ => ?_) AllReadyH.nil
      go_simp
      go_at_call 17
      refine (tickS D.p A' n c' D.al D.m T' j ct' D.rf D.l D.t q hxo hDo hln HQ5.out.1.nil htn (by omega) HQ5.out.2.nil (by omega) D' HD'.out _ HQ5.out.1.rd HQ5.out.2.rd).mono ?_
      rintro e w5 ⟨g3, c3, n3, gt3, ct3, rfl, ho2, hu2, hb2⟩
      obtain rfl : n2 = n3 := by have h1 := ho2.len; have h2 := HN2.out; omega
      have HK2 : SRn gi off j q.i.b q.K q.L w5 := HK.on hb2
      have HC3 := hq (bel_on (Nat.le_refl _) HC5.out hb2)
      have HX3 := hq (row_on HX5.out hb2)
      have HY3 := hq (row_on HY5.out hb2)
      have hlt5 := row_lt HX5.out
      have HP3 : Hid (OwnGN w5 (b5 + 1) (some ⟨g2, 0, none⟩) n2 c2 D'.l ∧ OwnUN w5 (b5 + 1) (some ⟨gt2, 0, none⟩) (j + 1) ct2 D'.t) := ⟨HP5.out.1.on hb2, HP5.out.2.on hb2⟩
      have HQ3 : Hid (OwnGN w5 (b5 + 1) (some ⟨g3, 0, none⟩) n2 c3 D'.l ∧ OwnUN w5 (b5 + 1) (some ⟨gt3, 0, none⟩) (j + 1) ct3 D'.t) := ⟨.inr ⟨g3, rfl, ho2.mono hlt5⟩, .inr ⟨gt3, rfl, hu2.mono hlt5⟩⟩
      clear hb2 ho2 hu2 HC5 HX5 HY5 HP5 HQ5 hlt5
      (try go_wp2_with fail)
      refine hJ.out _ _ HK2 (fun hHeld2 => ?_)
      clear hJ J hHeld1 HK
      try simp only [Act.put, sQ1, sQ2, sQ3, sQ4, sQ5, sQ6]
      refine wpAnyH_ready (rs := [6]) (by kernel_rfl) (by simp) ?_
      refine AllReadyH.cons rfl (fun J hJ => ?_) AllReadyH.nil
      refine storeR_any rfl rfl _ _ _ rfl b5 (dR D'.p (.slice (some ⟨g3, 0, none⟩) n2 c3) D'.al D'.m (.slice (some ⟨gt3, 0, none⟩) (j + 1) ct3) D'.rf) rfl rfl (by kernel_rfl) (by kernel_rfl) HX3.out rfl ?_
      intro w6 hput
      have HX := hq (hput.far HY3.out (by omega))
      have HY := hq hput.1
      have HC : Hid (Below w2.heap.size w2 w6) := hput.2.2.2 _ _ hb25 HC3.out
      have hsm : ∀ g, b5 + 1 ≤ g → g < w5.heap.size → w6.heap[g]? = w5.heap[g]? := fun g hg _ => hput.2.1 g (by omega)
      have HP : Hid (OwnGN w6 (b5 + 1) (some ⟨g2, 0, none⟩) n2 c2 D'.l ∧ OwnUN w6 (b5 + 1) (some ⟨gt2, 0, none⟩) (j + 1) ct2 D'.t) := ⟨HP3.out.1.same hsm, HP3.out.2.same hsm⟩
      have HQ : Hid (OwnGN w6 (b5 + 1) (some ⟨g3, 0, none⟩) n2 c3 D'.l ∧ OwnUN w6 (b5 + 1) (some ⟨gt3, 0, none⟩) (j + 1) ct3 D'.t) := ⟨HQ3.out.1.same hsm, HQ3.out.2.same hsm⟩
      have HK3 : SRn gi off j q.i.b q.K q.L w6 := HK2.same (hput.2.1 gi hg5)
      refine hJ.out _ _ HK3 (fun hHeld3 => ?_)
      clear hJ J hHeld2 hHeld3 HK2 HK3 hput hsm HX3 HY3 HC3 HP3 HQ3
      try simp only [Act.put, sQ1, sQ2, sQ3, sQ4, sQ5, sQ6]
      refine wpAnyH_done (by kernel_rfl) ?_ _
      go_upto_region 11 with fail
      have hdl : D'.t.length = j + 1 := HDL.out
      have hdo : D'.ok := HDO.out
      have hp9 := hdo.r
      have c4 := box17_cells HX.out
      have c5 := box17_cells HY.out
      have gP := pmpG
      have gM := mnuG
      have eP := pmp_neq D'.p.s D'.p.n D'.p.d D'.p.r D'.p.l D'.p.b D'.p.g D'.p.k
      have eM := mnu_neq D'.m.a D'.m.b D'.m.n D'.m.d ⟨D'.m.s.toArray⟩
      go_wp2_with fail
      refine (sameTk (some ⟨gt2, 0, none⟩) (some ⟨gt3, 0, none⟩) D'.t (j + 1) ct2 ct3 HDL.out (by omega) _ HP.out.2.rd HQ.out.2.rd).mono ?_
      rintro e w7 ⟨rfl, hb⟩
      have HX7 := hq (row_on HX.out hb)
      have HY7 := hq (row_on HY.out hb)
      have HC7 := hq (bel_on (Nat.le_refl _) HC.out hb)
      have HP7 : Hid (OwnGN w7 (b5 + 1) (some ⟨g2, 0, none⟩) n2 c2 D'.l ∧ OwnUN w7 (b5 + 1) (some ⟨gt2, 0, none⟩) (j + 1) ct2 D'.t) := ⟨HP.out.1.on hb, HP.out.2.on hb⟩
      have HQ7 : Hid (OwnGN w7 (b5 + 1) (some ⟨g3, 0, none⟩) n2 c3 D'.l ∧ OwnUN w7 (b5 + 1) (some ⟨gt3, 0, none⟩) (j + 1) ct3 D'.t) := ⟨HQ.out.1.on hb, HQ.out.2.on hb⟩
      clear hb HX HY HC HP HQ c4 c5 eP eM gP gM
      go_wp2_with (refine loadWT (by rfl) _ _ rfl b4 rfl _ _ _ _ HX7.out Tryz.underlying37 rfl (by kernel_rfl) ?_)
      refine (deviceokIR D'.p (some ⟨g2, 0, none⟩) n2 c2 D'.l D'.al D'.m (some ⟨gt2, 0, none⟩) (j + 1) ct2 D'.rf hdo.p hdo.g hdo.m.1 (by omega) ⟨hp9, by have := HRF.out; omega⟩ HN2.out (by have h1 := HN2.out; have h2 := hdo.g.1; omega) _ HP7.out.1.rd).mono ?_
      rintro e w8 ⟨rfl, hb⟩
      have HI : Hid (TcR ys w2 b4 b5 (j + 1) w8) := ⟨D', n2, some ⟨g2, 0, none⟩, c2, some ⟨gt2, 0, none⟩, ct2, some ⟨g3, 0, none⟩, c3, some ⟨gt3, 0, none⟩, ct3, HDn.out, row_on HX7.out hb, row_on HY7.out hb, ⟨HP7.out.1.on hb, HP7.out.2.on hb⟩, ⟨HQ7.out.1.on hb, HQ7.out.2.on hb⟩, HN2.out, bel_on (Nat.le_refl _) HC7.out hb⟩
      clear hb HX7 HY7 HC7 HP7 HQ7
      go_wp2
      go_roundg (gk - 1)
      case measure => omega
      case rel => exact ⟨j + 1, by omega, by go_num, HI⟩
    · obtain rfl : j = n0 := by omega
      have HDE : Hid (runD newD (ys.map (·.i)) = ⟨D.p, D.l, D.al, D.m, D.t, D.rf⟩) := by
        show _ = _
        have h := HDj.out
        unfold atD at h
        rw [List.take_of_length_le (by rw [List.length_map, HYL.out]; exact Nat.le_refl _)] at h
        rw [h]
      have hne : ¬ ((j : Int) < j) := by omega
      go_wp2_with fail
      refine (runI ys HOK.out ain j cap0 HYL.out (by omega) D.p D.l D.al D.m D.t D.rf HDE.out _ (Q.tab_below HT2.out HC.out) (HRI.out.keep HC.out (Nat.le_refl _))).mono ?_
      rintro e w3 ⟨g7, n7, c7, gt7, tn7, ct7, rfl, ho7, hu7, hb⟩
      obtain rfl : j = tn7 := by have h1 := hu7.len; have h2 := htn0.out; omega
      have HX3 := hq (row_on HX.out hb)
      have HP3 : Hid (OwnUN w3 (b5 + 1) T j ct D.t) := HP.out.2.on hb
      have HC3 := hq (bel_on (Nat.le_refl _) HC.out hb)
      have HU3 : Hid (RdY w3 (some ⟨gt7, 0, none⟩) D.t) := hu7.rd
      have hb43 := row_lt HX3.out
      clear hb HX HP HC HQ HY ho7 hu7 HDE
      obtain ⟨b7, hb7⟩ : ∃ x, w3.heap.size = x := ⟨_, rfl⟩
      have HN : Hid ((w3.alloc (dZ)).heap[b7]? = some (dZ)) := by rw [← hb7]; exact heap_new w3 _
      go_wp2_with (refine listStoreD rfl rfl _ _ _ rfl rfl b7 (dR D.p (.slice (some ⟨g7, 0, none⟩) n7 c7) D.al D.m (.slice (some ⟨gt7, 0, none⟩) j ct7) D.rf) rfl rfl rfl (by kernel_rfl) HN.out rfl ?_)
      intro w4 hput
      have hb : Below w3.heap.size w3 w4 := hput.2.2.2 _ _ (by omega) (alM _ _)
      have HX4 := hq (row_on HX3.out hb)
      have HX7 := hq hput.1
      have HP4 := hq (HP3.out.on hb)
      have HC4 := hq (bel_on (Nat.le_refl _) HC3.out hb)
      have HU4 := hq (HU3.out.keep hb (Nat.le_refl _))
      clear hput hb HN HX3 HP3 HC3 HU3 hb43 hb7
      go_upto_region 14 with fail
      have HE5 : Hid (OwnI3 (w4.alloc (.cells #[] 46)) w4.heap.size w4.heap.size 0 0 []) := ownI3_empty w4 _ (Nat.le_refl _)
      have hbe : Below w4.heap.size w4 (w4.alloc (.cells #[] 46)) := alM _ _
      have HR5 : Hid (RdZ (w4.alloc (.cells #[] 46)) ain (ys.map Inp.t3)) := HRI.out.keep (bel_on (Nat.le_refl _) HC4.out hbe) (Nat.le_refl _)
      have HBE := hq hbe
      have hsa : (w4.alloc (.cells #[] 46)).heap.size = w4.heap.size + 1 := by simp
      have HYM : Hid ((ys.map Inp.t3).length = j) := by show _ = _; rw [List.length_map]; exact HYL.out
      clear hbe
      go_wp2_with (refine listZ rfl (.tmp 73) (.tmp 74) rfl w4.heap.size w4.heap.size 0 0 [] ain j cap0 (ys.map Inp.t3) rfl rfl HE5.out HYM.out (fun e => absurd e HAN.out) HR5.out (by omega) (by rw [hsa]; omega) ?_)
      intro g8 c8 w8 ho8 hg8
      have HB8 : Hid (Below w4.heap.size w4 w8) := HBE.out.grown hg8 (by rw [hsa]; omega) (fun i e => by have := Option.some.inj e; omega)
      have HO8 : Hid (OwnI3 w8 w4.heap.size g8 j c8 (ys.map Inp.t3)) := by show OwnI3 _ _ _ _ _ _; (try rw [Nat.zero_add] at ho8); exact ho8
      (try rw [Nat.zero_add])
      clear ho8 hg8 HE5 HR5 hsa HBE
      have hba : Below w8.heap.size w8 (w8.alloc (.cells #[.int .i64 16, .string ⟨#[]⟩, .string ⟨#[]⟩] 46)) := alM _ _
      have HO9 := hq (HO8.out.on hba)
      have HR9 : Hid (RdZ (w8.alloc (.cells #[.int .i64 16, .string ⟨#[]⟩, .string ⟨#[]⟩] 46)) (some ⟨w8.heap.size, 0, none⟩) [(16, ⟨#[]⟩, ⟨#[]⟩)]) := (one_rowZ w8 16 ⟨#[]⟩ ⟨#[]⟩).rd
      have HB9 : Hid (Below w4.heap.size w4 (w8.alloc (.cells #[.int .i64 16, .string ⟨#[]⟩, .string ⟨#[]⟩] 46))) := HB8.out.trans (hba.mono HB8.out.size)
      have h49 : w4.heap.size ≤ (w8.alloc (.cells #[.int .i64 16, .string ⟨#[]⟩, .string ⟨#[]⟩] 46)).heap.size := HB9.out.size
      have hge8 : w4.heap.size ≤ g8 := HO8.out.ge
      clear hba HB8 HO8
      go_wp2_with (refine listZ rfl (.tmp 75) (.tmp 77) rfl w4.heap.size g8 j c8 (ys.map Inp.t3) (some ⟨w8.heap.size, 0, none⟩) 1 1 [(16, ⟨#[]⟩, ⟨#[]⟩)] rfl rfl HO9.out rfl (fun e => by cases e) HR9.out (by omega) h49 ?_)
      intro g10 c10 w10 ho10 hg10
      have HB10 : Hid (Below w4.heap.size w4 w10) := HB9.out.grown hg10 h49 (fun i e => by have := Option.some.inj e; omega)
      have HO10 : Hid (RdZ w10 (some ⟨g10, 0, none⟩) (ys.map Inp.t3 ++ [(16, ⟨#[]⟩, ⟨#[]⟩)])) := ho10.rd
      have HL10 : Hid ((ys.map Inp.t3 ++ [((16, ⟨#[]⟩, ⟨#[]⟩) : In3)]).length = j + 1) := by show _ = _; rw [List.length_append, HYM.out]; rfl
      have HBD : Hid ((decide (j + 1 ≤ 150) && (ys.map Inp.t3 ++ [((16, ⟨#[]⟩, ⟨#[]⟩) : In3)]).all inOkB) = false) := by
        show _ = _
        rw [List.all_append]
        have h16 : ([((16, ⟨#[]⟩, ⟨#[]⟩) : In3)]).all inOkB = false := by decide
        rw [h16]
        simp
      clear ho10 hg10 HO9 HR9 HB9 h49 hge8
      go_wp2_with fail
      refine (runIN (ys.map Inp.t3 ++ [(16, ⟨#[]⟩, ⟨#[]⟩)]) (some ⟨g10, 0, none⟩) (j + 1) c10 HL10.out (by omega) HBD.out _ HO10.out).mono ?_
      rintro e w11 ⟨rfl, hb⟩
      have h410 : w4.heap.size ≤ w10.heap.size := HB10.out.size
      have HB11 : Hid (Below w4.heap.size w4 w11) := HB10.out.trans (hb.mono h410)
      clear hb HB10 HO10 HL10 HBD
      obtain ⟨b9, hb9⟩ : ∃ x, w11.heap.size = x := ⟨_, rfl⟩
      have HN : Hid ((w11.alloc (dZ)).heap[b9]? = some (dZ)) := by rw [← hb9]; exact heap_new w11 _
      go_wp2_with (refine listStoreD rfl rfl _ _ _ rfl rfl b9 dY rfl rfl rfl (by kernel_rfl) HN.out rfl ?_)
      intro w12 hput
      have hb : Below w11.heap.size w11 w12 := hput.2.2.2 _ _ (by omega) (alM _ _)
      have HB12 : Hid (Below w4.heap.size w4 w12) := HB11.out.trans (hb.mono HB11.out.size)
      clear hput hb HN HB11 hb9 h410
      have HX12 : Hid (w12.heap[b4]? = some (dO D.p (.slice A n c) D.al D.m (.slice T j ct) D.rf)) := row_on HX4.out HB12.out
      have HX72 : Hid (w12.heap[b7]? = some (dO D.p (.slice (some ⟨g7, 0, none⟩) n7 c7) D.al D.m (.slice (some ⟨gt7, 0, none⟩) j ct7) D.rf)) := row_on HX7.out HB12.out
      have c4 := box17_cells HX12.out
      have c7 := box17_cells HX72.out
      have gP := pmpG
      have eP := pmp_eql D.p.s D.p.n D.p.d D.p.r D.p.l D.p.b D.p.g D.p.k
      go_wp2_with fail
      refine (sameTk (some ⟨gt7, 0, none⟩) T D.t j ct7 ct htn0.out (by omega) _ (HU4.out.keep HB12.out (Nat.le_refl _)) (HP4.out.on HB12.out).rd).mono ?_
      rintro e w13 ⟨rfl, hb⟩
      have HB13 : Hid (Below w4.heap.size w4 w13) := HB12.out.trans (hb.mono HB12.out.size)
      clear hb HB12 HX12 HX72 c4 c7 gP eP
      go_wp2_with fail
      refine (inokI 0 ⟨#[]⟩ ⟨#[]⟩ true (by decide) _).mono ?_
      rintro e w14 ⟨rfl, hb⟩
      have HB14 : Hid (Below w4.heap.size w4 w14) := HB13.out.trans (hb.mono HB13.out.size)
      have HF : Hid (Below w1.heap.size w1 w14) := bel_on (Nat.le_refl _) (bel_on (Nat.le_refl _) HB2.out HC4.out) HB14.out
      clear hb HB13
      go_wp2
      go_ret
      exact ⟨rfl, HF.out⟩
end Go.Proofs.YtfhhnelffldggaaGreatDoor
