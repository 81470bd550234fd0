/-
  Drawn pumps: right ones.
-/
import Derived.Test.YtpjnmkijndmemaaSpTk
import Derived.Test.YtpjnmkijndmemaaSpGv
import Derived.Test.YtpjnmkijndmemaaPmL
import Derived.Test.YtpjnmkijndmemaaDrawOr
namespace Go.Proofs.Ytpjnmkijndmemaa.I
open Go.RowKit Go.PlainAid
set_option linter.unusedVariables false
set_option linter.unusedSimpArgs false

/-- what stands while a pump is drawn: the answer's box, the pump's, and it is right -/
def LP (w W : World) (C B : Nat) (a : Option Addr) (len cap Pb : Nat) (s n d r l b g k : Int) : Prop := Drawn w W C B a len cap ∧ W.heap[w.heap.size]? = some (.cells #[.int .i64 0, .int .i64 0, .int .i64 0, .int .i64 0, .int .i64 0, .int .i64 0, .int .i64 0, .int .i64 0] 27) ∧ W.heap[Pb]? = some (.cells #[.int .i64 s, .int .i64 n, .int .i64 d, .int .i64 r, .int .i64 l, .int .i64 b, .int .i64 g, .int .i64 k] 27) ∧ Pm.ok ⟨s, n, d, r, l, b, g, k⟩ ∧ C < w.heap.size ∧ B ≤ C ∧ w.heap.size < Pb
theorem LP.on {w W W' : World} {C B : Nat} {a : Option Addr} {len cap Pb : Nat} {s n d r l b g k : Int} (h : LP w W C B a len cap Pb s n d r l b g k) (hD : Drawn W W' C B a len cap) : LP w W' C B a len cap Pb s n d r l b g k := by
  obtain ⟨h1, h2, h3, h4, h5, h6, h7⟩ := h
  exact ⟨drawn_trans h1 hD, row_drawn h2 hD.2.2 (by omega), row_drawn h3 hD.2.2 (by omega), h4, h5, h6, h7⟩
theorem drawn_belP {w W W' : World} {C B : Nat} {a : Option Addr} {len cap : Nat} (h : Drawn w W C B a len cap) (hB : B ≤ W.heap.size) (hb : Below W.heap.size W W') : Drawn w W' C B a len cap := by
  obtain ⟨⟨i, x, hi, hc⟩, h2, h3⟩ := h
  refine ⟨⟨i, x, hi, row_on hc hb⟩, code_below h2 (hb.mono hB), ?_⟩
  exact ⟨hb.os.trans h3.os, hb.tape.trans h3.tape, hb.output.trans h3.output, Nat.le_trans h3.size hb.size, fun k hk hne => (hb.block k (Nat.lt_of_lt_of_le hk h3.size)).trans (h3.block k hk hne)⟩
theorem LP.bel {w W W' : World} {C B : Nat} {a : Option Addr} {len cap Pb : Nat} {s n d r l b g k : Int} (h : LP w W C B a len cap Pb s n d r l b g k) (hb : Below W.heap.size W W') : LP w W' C B a len cap Pb s n d r l b g k := by
  obtain ⟨h1, h2, h3, h4, h5, h6, h7⟩ := h
  exact ⟨drawn_belP h1 (by have := row_lt h2; omega) hb, row_on h2 hb, row_on h3 hb, h4, h5, h6, h7⟩
theorem drawn_put8 {w W : World} {C B : Nat} {a : Option Addr} {len cap : Nat} (h : Drawn w W C B a len cap) {k : Nat} (z0 z1 z2 z3 z4 z5 z6 z7 : Int) (hk : w.heap.size ≤ k) (hC : C < w.heap.size) (hB : B ≤ C) : Drawn w ((((((((W.setCell ⟨k, 0, none⟩ (.int .i64 z0)).setCell ⟨k, 1, none⟩ (.int .i64 z1)).setCell ⟨k, 2, none⟩ (.int .i64 z2)).setCell ⟨k, 3, none⟩ (.int .i64 z3)).setCell ⟨k, 4, none⟩ (.int .i64 z4)).setCell ⟨k, 5, none⟩ (.int .i64 z5)).setCell ⟨k, 6, none⟩ (.int .i64 z6)).setCell ⟨k, 7, none⟩ (.int .i64 z7)) C B a len cap :=
  drawn_put (drawn_put (drawn_put (drawn_put (drawn_put (drawn_put (drawn_put (drawn_put h 0 (.int .i64 z0) hk hC hB) 1 (.int .i64 z1) hk hC hB) 2 (.int .i64 z2) hk hC hB) 3 (.int .i64 z3) hk hC hB) 4 (.int .i64 z4) hk hC hB) 5 (.int .i64 z5) hk hC hB) 6 (.int .i64 z6) hk hC hB) 7 (.int .i64 z7) hk hC hB
theorem LP.put {w W : World} {C B : Nat} {a : Option Addr} {len cap Pb : Nat} {s n d r l b g k : Int} (h : LP w W C B a len cap Pb s n d r l b g k) (z0 z1 z2 z3 z4 z5 z6 z7 : Int) (ho : Pm.ok ⟨z0, z1, z2, z3, z4, z5, z6, z7⟩) : LP w ((((((((W.setCell ⟨Pb, 0, none⟩ (.int .i64 z0)).setCell ⟨Pb, 1, none⟩ (.int .i64 z1)).setCell ⟨Pb, 2, none⟩ (.int .i64 z2)).setCell ⟨Pb, 3, none⟩ (.int .i64 z3)).setCell ⟨Pb, 4, none⟩ (.int .i64 z4)).setCell ⟨Pb, 5, none⟩ (.int .i64 z5)).setCell ⟨Pb, 6, none⟩ (.int .i64 z6)).setCell ⟨Pb, 7, none⟩ (.int .i64 z7)) C B a len cap Pb z0 z1 z2 z3 z4 z5 z6 z7 := by
  obtain ⟨h1, h2, h3, h4, h5, h6, h7⟩ := h
  exact ⟨drawn_put8 h1 z0 z1 z2 z3 z4 z5 z6 z7 (by omega) h5 h6, set8_far z0 z1 z2 z3 z4 z5 z6 z7 h2 (by omega), set8_row z0 z1 z2 z3 z4 z5 z6 z7 h3, ho, h5, h6, h7⟩
/-- a world that has another row in a new block alone -/
theorem drawn_ho {w W W' : World} {C B k : Nat} {a : Option Addr} {len cap : Nat} (h : Drawn w W C B a len cap) (_ : C ≠ k → W'.heap[C]? = W.heap[C]?) (hs : W'.heap.size = W.heap.size) (ho : ∀ m, m ≠ k → W'.heap[m]? = W.heap[m]?) (hk : w.heap.size ≤ k) (hC : C < w.heap.size) (hos : W'.os = W.os) (htp : W'.tape = W.tape) (hot : W'.output = W.output) (hB : B ≤ w.heap.size) : Drawn w W' C B a len cap := by
  obtain ⟨⟨i, x, hi, hc⟩, h2, h3⟩ := h
  have hb : Below w.heap.size W W' := ⟨hos, htp, hot, Nat.le_of_eq hs.symm, fun m hm => ho m (by omega)⟩
  refine ⟨⟨i, x, hi, (ho C (by omega)).trans hc⟩, code_below h2 (hb.mono hB), ?_⟩
  exact ⟨hos.trans h3.os, htp.trans h3.tape, hot.trans h3.output, by rw [hs]; exact h3.size, fun m hm hne => (ho m (by omega)).trans (h3.block m hm hne)⟩
theorem drawn_hb {w W W' : World} {C B k Q : Nat} {a : Option Addr} {len cap : Nat} (h : Drawn w W C B a len cap) (hs : W'.heap.size = W.heap.size) (ho : ∀ m, m ≠ k → W'.heap[m]? = W.heap[m]?) (hb : Below Q W W') (hk : w.heap.size ≤ k) (hC : C < w.heap.size) (hB : B ≤ w.heap.size) : Drawn w W' C B a len cap :=
  drawn_ho h (fun e => ho C e) hs ho hk hC hb.os hb.tape hb.output hB
/-- a load of the pump beside a draw -/
structure PD (T : Value → Prop) (P : Value) (L : World → Prop) (x y : Bool) (t0 t2 : Value) (w : World) : Prop where
  x : x = true → t0 = P
  y : y = true → T t2
  st : L w
theorem drawn_start {w : World} {C B : Nat} {a : Option Addr} {len cap : Nat} (hC : Cur w C a len cap) (hcode : CodeOk w B a len) : Drawn w w C B a len cap := ⟨hC, hcode, World.grownBy.refl _ _⟩

theorem LP.drew {w W : World} {C B : Nat} {a : Option Addr} {len cap Pb : Nat} {s n d r l b g k : Int} (h : LP w W C B a len cap Pb s n d r l b g k) : LP w W.drew C B a len cap Pb s n d r l b g k := by
  obtain ⟨h1, h2, h3, h4, h5, h6, h7⟩ := h
  exact ⟨drawn_drew h1, h2, h3, h4, h5, h6, h7⟩
set_option maxRecDepth 100000 in
set_option maxHeartbeats 8000000 in
theorem pumpD (C B : Nat) (a : Option Addr) (len cap : Nat) (w : World) (hC : Cur w C a len cap) (hB : B ≤ C) (hcode : CodeOk w B a len) :
    Calls Try.prog 30 #[.pointer (some ⟨C, 0, none⟩)] w fun e w' => ∃ p : Pm, e = .returned p.V ∧ p.ok ∧ Drawn w w' C B a len cap := by
  have hlt := cur_lt hC
  have HD0 : Hid (Drawn w (w.alloc (.cells #[.int .i64 0, .int .i64 0, .int .i64 0, .int .i64 0, .int .i64 0, .int .i64 0, .int .i64 0, .int .i64 0] 27)) C B a len cap) := drawn_alloc ⟨hC, hcode, World.grownBy.refl _ _⟩ (by omega) _
  have HZ0 : Hid ((w.alloc (.cells #[.int .i64 0, .int .i64 0, .int .i64 0, .int .i64 0, .int .i64 0, .int .i64 0, .int .i64 0, .int .i64 0] 27)).heap[w.heap.size]? = some (.cells #[.int .i64 0, .int .i64 0, .int .i64 0, .int .i64 0, .int .i64 0, .int .i64 0, .int .i64 0, .int .i64 0] 27)) := heap_new w _
  have K1 : Hid (∀ w, Calls Try.prog 25 #[] w fun e w' => e = .returned (.agg #[.int .i64 0, .int .i64 0, .int .i64 1, .int .i64 0, .int .i64 0, .int .i64 0, .int .i64 0, .int .i64 0]) ∧ Below w.heap.size w w') := fun w => newS w
  clear hC hcode
  go_enter Try.func30, Try.ntmps30
  go_wp2_with fail
  refine Calls.mono (K1.out _) ?_
  rintro e w1 ⟨rfl, hb1⟩
  have HD1 : Hid (Drawn w (w1.alloc (.cells #[.int .i64 0, .int .i64 0, .int .i64 0, .int .i64 0, .int .i64 0, .int .i64 0, .int .i64 0, .int .i64 0] 27)) C B a len cap) := drawn_alloc (drawn_belP HD0.out (by simp; omega) hb1) (by have := hb1.size; simp at this; omega) _
  have HZ1 : Hid ((w1.alloc (.cells #[.int .i64 0, .int .i64 0, .int .i64 0, .int .i64 0, .int .i64 0, .int .i64 0, .int .i64 0, .int .i64 0] 27)).heap[w.heap.size]? = some (.cells #[.int .i64 0, .int .i64 0, .int .i64 0, .int .i64 0, .int .i64 0, .int .i64 0, .int .i64 0, .int .i64 0] 27)) := row_on (row_on HZ0.out hb1) (alP _ _)
  have hl1 : w.heap.size < w1.heap.size := by have := hb1.size; simp at this; omega
  have HN1 : Hid ((w1.alloc (.cells #[.int .i64 0, .int .i64 0, .int .i64 0, .int .i64 0, .int .i64 0, .int .i64 0, .int .i64 0, .int .i64 0] 27)).heap[w1.heap.size]? = some (.cells #[.int .i64 0, .int .i64 0, .int .i64 0, .int .i64 0, .int .i64 0, .int .i64 0, .int .i64 0, .int .i64 0] 27)) := heap_new w1 _
  clear hb1 HD0 HZ0 K1
  go_wp2_with (refine listStoreP rfl rfl _ _ _ rfl rfl w1.heap.size (0) (0) (1) (0) (0) (0) (0) (0) rfl rfl HN1.out ?_)
  intro w2 hr2 ho2 hs2 hB2
  obtain ⟨Pb, hPb⟩ : ∃ Pb, w1.heap.size = Pb := ⟨_, rfl⟩
  have HL2 : Hid (LP w w2 C B a len cap w1.heap.size (0) (0) (1) (0) (0) (0) (0) (0)) := ⟨drawn_hb HD1.out hs2 ho2 (hB2 _ _ (Nat.le_refl _) (Below.refl _ _)) (by omega) hlt (by omega), (ho2 _ (by omega)).trans HZ1.out, hr2, new_ok, hlt, hB, hl1⟩
  rw [hPb] at HL2
  rw [hPb]
  clear hr2 ho2 hs2 hB2 HD1 HZ1 HN1 hPb hl1
  go_wp2
  go_loopg [4] 14 (fun gk i wr => ∃ (j : Nat) (s n d r l b g k : Int), j + gk = 14 ∧ i = .int .i64 j ∧ Hid (LP w wr C B a len cap Pb (s) (n) (d) (r) (l) (b) (g) (k)))
  case atStart => exact ⟨0, 0, 0, 1, 0, 0, 0, 0, 0, by omega, rfl, HL2⟩
  case round =>
    clear HL2
    obtain ⟨j, s, n, d, r, l, b, g, k, hj, rfl, HL⟩ := hrel
    go_wp2_with fail
    refine (below28 C B a len cap 14 (by omega) (by omega) _ HL.out.1.1 hB HL.out.1.2.1).mono ?_
    rintro e w3 ⟨q, rfl, q0, q1, hD⟩
    have HL3 : Hid (LP w w3 C B a len cap Pb (s) (n) (d) (r) (l) (b) (g) (k)) := HL.out.on hD
    clear hD HL
    by_cases hq : (j : Int) < q
    · have hj14 : j < 14 := by omega
      have qi : IntKind.i64.wrap ((j : Int) + 1) = (j : Int) + 1 := wrap_in (by omega) (by omega)
      go_wp2_with fail
      refine (onceR C B a len cap 3 (by decide) (by decide) _ HL3.out.1.1 hB HL3.out.1.2.1).mono ?_
      rintro e w4 ⟨o, rfl, hD⟩
      have HL : Hid (LP w w4 C B a len cap Pb (s) (n) (d) (r) (l) (b) (g) (k)) := HL3.out.on hD
      clear hD HL3 q0 q1 hq
      cases o
      · go_upto_region 7 with fail
        refine wp_region_held_drew (S := fun w' => True) (by kernel_rfl) trivial (fun hHeld => ?_)
        refine wpAnyH_take (i := 1) (v := ?_) rfl (by kernel_rfl) (by kernel_rfl) (by kernel_rfl) (fun _ _ _ h => h) (Or.inl ⟨by rfl, ?_⟩) (by assumption) ?_
        rotate_left
        · intro w_ hSw; go_simp <;> with_reducible rfl
        try simp only [Act.put, List.setIfInBounds_toArray, List.set_cons_zero, List.set_cons_succ, List.getElem_toArray, List.getElem_cons_zero, List.getElem_cons_succ]
        refine wpAnyH_named (fun a0 ha0 => ?_)
        have HA0 : Hid (a0 = _) := ha0
        clear ha0
        refine any_states (σ := Bool × Bool) (fun s => #[s.1, true, s.2, false, false]) (fun s => (if s.1 = true then [] else [0]) ++ (if s.2 = true then [] else [2])) (fun s => 2 + (if s.1 then 0 else 1) + (if s.2 then 0 else 1)) (fun s => true) (fun s => s.1 && s.2) (fun q a_ w_ => ∃ t0 t2 : Value, a_ = (a0.put (some 21) t0).put (some 23) t2 ∧ PD (fun v => ∃ q : Int, v = .int .i64 q) (.agg #[.int .i64 s, .int .i64 n, .int .i64 d, .int .i64 r, .int .i64 l, .int .i64 b, .int .i64 g, .int .i64 k]) (fun W => LP w W C B a len cap Pb (s) (n) (d) (r) (l) (b) (g) (k)) q.1 q.2 t0 t2 w_) ?_ ?_ ?_ 4 (false, false) _ _ _ (by decide) (by decide) (by decide) trivial ⟨a0.tmps.getD 21 undef, a0.tmps.getD 23 undef, (by simp only [put_self]), ⟨fun h => absurd h (by simp), fun h => absurd h (by simp), HL.out.drew⟩⟩
        · rintro ⟨x, y⟩
          dsimp only
          revert x y
          decide +kernel
        · rintro ⟨x, y⟩ i hok hfin hi
          dsimp only at hok hfin hi
          simp only [List.mem_append, mem_ifn] at hi
          rcases hi with hi | hi
          · obtain ⟨hx, rfl⟩ := hi
            subst hx
            refine ⟨(true, y), rfl, rfl, ?_, ?_⟩
            · clear hfin hok; revert y; decide +kernel
            rintro a_ w_ hSw ⟨t0, t2, rfl, hn⟩
            dsimp only at hn ⊢
            refine wpOp_step (i := 0) rfl (fun K hK => ?_)
            have HK : Shut _ := hK
            clear hK
            rw [HA0.out]
            simp only [Act.put, List.setIfInBounds_toArray, List.set_cons_zero, List.set_cons_succ]
            have kk := box8_cells hn.st.2.2.1
            go_simp
            exact HK.out _ _ ⟨trivial, _, t2, (by rw [HA0.out]; simp only [Act.put, List.setIfInBounds_toArray, List.set_cons_zero, List.set_cons_succ]), ⟨fun _ => rfl, hn.y, hn.st⟩⟩
          · obtain ⟨hy, rfl⟩ := hi
            subst hy
            refine ⟨(x, true), rfl, rfl, ?_, ?_⟩
            · clear hfin hok; revert x; decide +kernel
            rintro a_ w_ hSw ⟨t0, t2, rfl, hn⟩
            dsimp only at hn ⊢
            refine wpOp_step (i := 2) rfl (fun K hK => ?_)
            have HK : Shut _ := hK
            clear hK
            rw [HA0.out]
            simp only [Act.put, List.setIfInBounds_toArray, List.set_cons_zero, List.set_cons_succ]
            go_simp
            go_at_call 38
            refine (below28 C B a len cap 8 (by omega) (by omega) _ hn.st.1.1 hB hn.st.1.2.1).mono ?_
            rintro e w2 ⟨q, rfl, _, _, hD⟩
            have hn2 := hn.st.on hD
            go_wp2_with fail
            exact HK.out _ _ ⟨trivial, t0, _, (by rw [HA0.out]; simp only [Act.put, List.setIfInBounds_toArray, List.set_cons_zero, List.set_cons_succ]), ⟨hn.x, fun _ => ⟨q, rfl⟩, hn2⟩⟩
        · rintro ⟨x, y⟩ a_ w_ f2 hok hfin hf hSw ⟨t0, t2, rfl, hn⟩
          dsimp only at hok hfin hf hn ⊢
          obtain ⟨rfl, rfl⟩ : x = true ∧ y = true := by simpa using hfin
          obtain ⟨f3, rfl⟩ : ∃ f3, f2 = f3 + 2 := ⟨f2 - 2, by have h3 : 2 ≤ f2 := (by first | exact hf | simpa using hf); omega⟩
          obtain rfl := hn.x rfl
          obtain ⟨q, rfl⟩ := hn.y rfl
          obtain ⟨p2, hp2⟩ : ∃ p2, Pm.give ⟨s, n, d, r, l, b, g, k⟩ q = p2 := ⟨_, rfl⟩
          have hok2 : p2.ok := by rw [← hp2]; exact give_ok hn.st.2.2.2.1 q
          have KG0 : Hid (∀ w, Calls Try.prog 20 #[.agg #[.int .i64 s, .int .i64 n, .int .i64 d, .int .i64 r, .int .i64 l, .int .i64 b, .int .i64 g, .int .i64 k], .int .i64 q] w fun e w' => e = .returned p2.V ∧ Below w.heap.size w w') := fun w => by rw [← hp2]; exact giveS ⟨s, n, d, r, l, b, g, k⟩ q w
          clear hp2
          obtain ⟨s', n', d', r', l', b', g', k'⟩ := p2
          have HQ : Hid (Pm.ok ⟨s', n', d', r', l', b', g', k'⟩) := hok2
          have KG : Hid (∀ w, Calls Try.prog 20 #[.agg #[.int .i64 s, .int .i64 n, .int .i64 d, .int .i64 r, .int .i64 l, .int .i64 b, .int .i64 g, .int .i64 k], .int .i64 q] w fun e w' => e = .returned (.agg #[.int .i64 s', .int .i64 n', .int .i64 d', .int .i64 r', .int .i64 l', .int .i64 b', .int .i64 g', .int .i64 k']) ∧ Below w.heap.size w w') := KG0
          clear hok2 KG0
          rw [HA0.out]
          simp only [Act.put, List.setIfInBounds_toArray, List.set_cons_zero, List.set_cons_succ]
          refine wpAnyH_ready (rs := [3]) (by kernel_rfl) (by simp) ?_
          refine AllReadyH.cons rfl (fun K hK => ?_) AllReadyH.nil
          go_simp
          go_at_call 20
          refine Calls.mono (KG.out _) ?_
          rintro e w8 ⟨rfl, hb8⟩
          have hn8 := hn.st.bel hb8
          go_wp2_with fail
          refine hK.out _ _ trivial (fun hHeld2 => ?_)
          clear hK K
          simp only [Act.put, List.setIfInBounds_toArray, List.set_cons_zero, List.set_cons_succ]
          refine wpAnyH_ready (rs := [4]) (by kernel_rfl) (by simp) ?_
          refine AllReadyH.cons rfl (fun K hK => ?_) AllReadyH.nil
          have kk := box8_cells hn8.2.2.1
          go_simp
          have HLn : Hid (LP w ((((((((w8.setCell ⟨Pb, 0, none⟩ (.int .i64 s')).setCell ⟨Pb, 1, none⟩ (.int .i64 n')).setCell ⟨Pb, 2, none⟩ (.int .i64 d')).setCell ⟨Pb, 3, none⟩ (.int .i64 r')).setCell ⟨Pb, 4, none⟩ (.int .i64 l')).setCell ⟨Pb, 5, none⟩ (.int .i64 b')).setCell ⟨Pb, 6, none⟩ (.int .i64 g')).setCell ⟨Pb, 7, none⟩ (.int .i64 k')) C B a len cap Pb (s') (n') (d') (r') (l') (b') (g') (k')) := hn8.put (s') (n') (d') (r') (l') (b') (g') (k') HQ.out
          refine hK.out _ _ trivial (fun hHeld3 => ?_)
          clear hK K hHeld3 hn hn8 hb8 kk
          simp only [Act.put, List.setIfInBounds_toArray, List.set_cons_zero, List.set_cons_succ]
          refine wpAnyH_done (by kernel_rfl) ?_ _
          generalize ((((((((w8.setCell ⟨Pb, 0, none⟩ (.int .i64 s')).setCell ⟨Pb, 1, none⟩ (.int .i64 n')).setCell ⟨Pb, 2, none⟩ (.int .i64 d')).setCell ⟨Pb, 3, none⟩ (.int .i64 r')).setCell ⟨Pb, 4, none⟩ (.int .i64 l')).setCell ⟨Pb, 5, none⟩ (.int .i64 b')).setCell ⟨Pb, 6, none⟩ (.int .i64 g')).setCell ⟨Pb, 7, none⟩ (.int .i64 k')) = w9 at *
          clear HL
          go_wp2
          go_roundg (gk - 1)
          case measure => omega
          case rel => exact ⟨j + 1, s', n', d', r', l', b', g', k', by omega, by go_num, HLn⟩
      · go_upto_region 6 with fail
        refine wp_region_held_drew (S := fun w' => True) (by kernel_rfl) trivial (fun hHeld => ?_)
        refine wpAnyH_take (i := 1) (v := ?_) rfl (by kernel_rfl) (by kernel_rfl) (by kernel_rfl) (fun _ _ _ h => h) (Or.inl ⟨by rfl, ?_⟩) (by assumption) ?_
        rotate_left
        · intro w_ hSw; go_simp <;> with_reducible rfl
        try simp only [Act.put, List.setIfInBounds_toArray, List.set_cons_zero, List.set_cons_succ, List.getElem_toArray, List.getElem_cons_zero, List.getElem_cons_succ]
        refine wpAnyH_named (fun a0 ha0 => ?_)
        have HA0 : Hid (a0 = _) := ha0
        clear ha0
        refine any_states (σ := Bool × Bool) (fun s => #[s.1, true, s.2, false, false, false, false, false]) (fun s => (if s.1 = true then [] else [0]) ++ (if s.2 = true then [] else [2])) (fun s => 5 + (if s.1 then 0 else 1) + (if s.2 then 0 else 1)) (fun s => true) (fun s => s.1 && s.2) (fun q a_ w_ => ∃ t0 t2 : Value, a_ = (a0.put (some 15) t0).put (some 17) t2 ∧ PD (fun v => ∃ K N D V : Int, v = ordV K N D V) (.agg #[.int .i64 s, .int .i64 n, .int .i64 d, .int .i64 r, .int .i64 l, .int .i64 b, .int .i64 g, .int .i64 k]) (fun W => LP w W C B a len cap Pb (s) (n) (d) (r) (l) (b) (g) (k)) q.1 q.2 t0 t2 w_) ?_ ?_ ?_ 7 (false, false) _ _ _ (by decide) (by decide) (by decide) trivial ⟨a0.tmps.getD 15 undef, a0.tmps.getD 17 undef, (by simp only [put_self]), ⟨fun h => absurd h (by simp), fun h => absurd h (by simp), HL.out.drew⟩⟩
        · rintro ⟨x, y⟩
          dsimp only
          revert x y
          decide +kernel
        · rintro ⟨x, y⟩ i hok hfin hi
          dsimp only at hok hfin hi
          simp only [List.mem_append, mem_ifn] at hi
          rcases hi with hi | hi
          · obtain ⟨hx, rfl⟩ := hi
            subst hx
            refine ⟨(true, y), rfl, rfl, ?_, ?_⟩
            · clear hfin hok; revert y; decide +kernel
            rintro a_ w_ hSw ⟨t0, t2, rfl, hn⟩
            dsimp only at hn ⊢
            refine wpOp_step (i := 0) rfl (fun K hK => ?_)
            have HK : Shut _ := hK
            clear hK
            rw [HA0.out]
            simp only [Act.put, List.setIfInBounds_toArray, List.set_cons_zero, List.set_cons_succ]
            have kk := box8_cells hn.st.2.2.1
            go_simp
            exact HK.out _ _ ⟨trivial, _, t2, (by rw [HA0.out]; simp only [Act.put, List.setIfInBounds_toArray, List.set_cons_zero, List.set_cons_succ]), ⟨fun _ => rfl, hn.y, hn.st⟩⟩
          · obtain ⟨hy, rfl⟩ := hi
            subst hy
            refine ⟨(x, true), rfl, rfl, ?_, ?_⟩
            · clear hfin hok; revert x; decide +kernel
            rintro a_ w_ hSw ⟨t0, t2, rfl, hn⟩
            dsimp only at hn ⊢
            refine wpOp_step (i := 2) rfl (fun K hK => ?_)
            have HK : Shut _ := hK
            clear hK
            rw [HA0.out]
            simp only [Act.put, List.setIfInBounds_toArray, List.set_cons_zero, List.set_cons_succ]
            go_simp
            go_at_call 51
            refine (orderD C B a len cap _ hn.st.1.1 hB hn.st.1.2.1).mono ?_
            rintro e w2 ⟨k0, n0, d0, v0, rfl, hD⟩
            have hn2 := hn.st.on hD
            go_wp2_with fail
            exact HK.out _ _ ⟨trivial, t0, _, (by rw [HA0.out]; simp only [Act.put, List.setIfInBounds_toArray, List.set_cons_zero, List.set_cons_succ]), ⟨hn.x, fun _ => ⟨k0, n0, d0, v0, rfl⟩, hn2⟩⟩
        · rintro ⟨x, y⟩ a_ w_ f2 hok hfin hf hSw ⟨t0, t2, rfl, hn⟩
          dsimp only at hok hfin hf hn ⊢
          obtain ⟨rfl, rfl⟩ : x = true ∧ y = true := by simpa using hfin
          obtain ⟨f3, rfl⟩ : ∃ f3, f2 = f3 + 5 := ⟨f2 - 5, by have h3 : 5 ≤ f2 := (by first | exact hf | simpa using hf); omega⟩
          obtain rfl := hn.x rfl
          obtain ⟨K0, N0, D0, V0, rfl⟩ := hn.y rfl
          obtain ⟨p2, hp2⟩ : ∃ p2, (Pm.take ⟨s, n, d, r, l, b, g, k⟩ K0 N0 D0 V0).1 = p2 := ⟨_, rfl⟩
          obtain ⟨bo, hbo⟩ : ∃ bo, (Pm.take ⟨s, n, d, r, l, b, g, k⟩ K0 N0 D0 V0).2 = bo := ⟨_, rfl⟩
          have hok2 : p2.ok := by rw [← hp2]; exact take_ok hn.st.2.2.2.1 K0 N0 D0 V0
          have KG0 : Hid (∀ w, Calls Try.prog 17 #[.agg #[.int .i64 s, .int .i64 n, .int .i64 d, .int .i64 r, .int .i64 l, .int .i64 b, .int .i64 g, .int .i64 k], ordV K0 N0 D0 V0] w fun e w' => e = .returned (.tuple #[p2.V, .bool bo]) ∧ Below w.heap.size w w') := fun w => by rw [← hp2, ← hbo]; exact takeS ⟨s, n, d, r, l, b, g, k⟩ K0 N0 D0 V0 w
          clear hp2 hbo
          obtain ⟨s', n', d', r', l', b', g', k'⟩ := p2
          have HQ : Hid (Pm.ok ⟨s', n', d', r', l', b', g', k'⟩) := hok2
          have KG : Hid (∀ w, Calls Try.prog 17 #[.agg #[.int .i64 s, .int .i64 n, .int .i64 d, .int .i64 r, .int .i64 l, .int .i64 b, .int .i64 g, .int .i64 k], .agg #[.int .i64 K0, .int .i64 N0, .int .i64 D0, .int .i64 V0]] w fun e w' => e = .returned (.tuple #[.agg #[.int .i64 s', .int .i64 n', .int .i64 d', .int .i64 r', .int .i64 l', .int .i64 b', .int .i64 g', .int .i64 k'], .bool bo]) ∧ Below w.heap.size w w') := KG0
          clear hok2 KG0
          unfold ordV
          rw [HA0.out]
          simp only [Act.put, List.setIfInBounds_toArray, List.set_cons_zero, List.set_cons_succ]
          refine wpAnyH_ready (rs := [3]) (by kernel_rfl) (by simp) ?_
          refine AllReadyH.cons rfl (fun K hK => ?_) AllReadyH.nil
          go_simp
          go_at_call 17
          refine Calls.mono (KG.out _) ?_
          rintro e w8 ⟨rfl, hb8⟩
          have hn8 := hn.st.bel hb8
          go_wp2_with fail
          refine hK.out _ _ trivial (fun hHeld2 => ?_)
          clear hK K
          simp only [Act.put, List.setIfInBounds_toArray, List.set_cons_zero, List.set_cons_succ]
          refine wpAnyH_take (i := 4) (v := ?_) rfl (by kernel_rfl) (by kernel_rfl) (by kernel_rfl) (fun _ _ _ h => h) (Or.inl ⟨by rfl, ?_⟩) (by assumption) ?_
          rotate_left
          · intro w2_ hSw2; go_simp <;> with_reducible rfl
          try simp only [Act.put, List.setIfInBounds_toArray, List.set_cons_zero, List.set_cons_succ, List.getElem_toArray, List.getElem_cons_zero, List.getElem_cons_succ]
          refine wpAnyH_take (i := 5) (v := ?_) rfl (by kernel_rfl) (by kernel_rfl) (by kernel_rfl) (fun _ _ _ h => h) (Or.inl ⟨by rfl, ?_⟩) (by assumption) ?_
          rotate_left
          · intro w2_ hSw2; go_simp <;> with_reducible rfl
          try simp only [Act.put, List.setIfInBounds_toArray, List.set_cons_zero, List.set_cons_succ, List.getElem_toArray, List.getElem_cons_zero, List.getElem_cons_succ]
          refine wpAnyH_take (i := 6) (v := ?_) rfl (by kernel_rfl) (by kernel_rfl) (by kernel_rfl) (fun _ _ _ h => h) (Or.inl ⟨by rfl, ?_⟩) (by assumption) ?_
          rotate_left
          · intro w2_ hSw2; go_simp <;> with_reducible rfl
          try simp only [Act.put, List.setIfInBounds_toArray, List.set_cons_zero, List.set_cons_succ, List.getElem_toArray, List.getElem_cons_zero, List.getElem_cons_succ]
          refine wpAnyH_ready (rs := [7]) (by kernel_rfl) (by simp) ?_
          refine AllReadyH.cons rfl (fun K hK => ?_) AllReadyH.nil
          have kk := box8_cells hn8.2.2.1
          go_simp
          have HLn : Hid (LP w ((((((((w8.setCell ⟨Pb, 0, none⟩ (.int .i64 s')).setCell ⟨Pb, 1, none⟩ (.int .i64 n')).setCell ⟨Pb, 2, none⟩ (.int .i64 d')).setCell ⟨Pb, 3, none⟩ (.int .i64 r')).setCell ⟨Pb, 4, none⟩ (.int .i64 l')).setCell ⟨Pb, 5, none⟩ (.int .i64 b')).setCell ⟨Pb, 6, none⟩ (.int .i64 g')).setCell ⟨Pb, 7, none⟩ (.int .i64 k')) C B a len cap Pb (s') (n') (d') (r') (l') (b') (g') (k')) := hn8.put (s') (n') (d') (r') (l') (b') (g') (k') HQ.out
          refine hK.out _ _ trivial (fun hHeld3 => ?_)
          clear hK K hHeld3 hn hn8 hb8 kk
          simp only [Act.put, List.setIfInBounds_toArray, List.set_cons_zero, List.set_cons_succ]
          refine wpAnyH_done (by kernel_rfl) ?_ _
          generalize ((((((((w8.setCell ⟨Pb, 0, none⟩ (.int .i64 s')).setCell ⟨Pb, 1, none⟩ (.int .i64 n')).setCell ⟨Pb, 2, none⟩ (.int .i64 d')).setCell ⟨Pb, 3, none⟩ (.int .i64 r')).setCell ⟨Pb, 4, none⟩ (.int .i64 l')).setCell ⟨Pb, 5, none⟩ (.int .i64 b')).setCell ⟨Pb, 6, none⟩ (.int .i64 g')).setCell ⟨Pb, 7, none⟩ (.int .i64 k')) = w9 at *
          clear HL
          go_wp2
          go_roundg (gk - 1)
          case measure => omega
          case rel => exact ⟨j + 1, s', n', d', r', l', b', g', k', by omega, by go_num, HLn⟩
    · have pr := box8_cells HL3.out.2.2.1
      have HZ3 : Hid (w3.heap[w.heap.size]? = some (.cells #[.int .i64 0, .int .i64 0, .int .i64 0, .int .i64 0, .int .i64 0, .int .i64 0, .int .i64 0, .int .i64 0] 27)) := HL3.out.2.1
      have HOk : Hid (Pm.ok ⟨s, n, d, r, l, b, g, k⟩) := HL3.out.2.2.2.1
      have HD3 : Hid (Drawn w w3 C B a len cap) := HL3.out.1
      clear HL3 q0 q1
      go_upto_region 8 with fail
      go_wp2_with (refine listStoreP rfl rfl _ _ _ rfl rfl w.heap.size (s) (n) (d) (r) (l) (b) (g) (k) rfl rfl HZ3.out ?_)
      intro w9 hr9 ho9 hs9 hB9
      have HF : Hid (Drawn w w9 C B a len cap) := drawn_hb HD3.out hs9 ho9 (hB9 _ _ (Nat.le_refl _) (Below.refl _ _)) (Nat.le_refl _) hlt (by omega)
      obtain ⟨⟨z0, z1, z2, z3, z4, z5, z6, z7⟩, _⟩ := box8_cells hr9
      clear ho9 hs9 hB9 hr9 pr HZ3 HD3
      go_wp2
      refine bodyPost_ret (v := .agg #[.int .i64 s, .int .i64 n, .int .i64 d, .int .i64 r, .int .i64 l, .int .i64 b, .int .i64 g, .int .i64 k]) (by simp only [results, Try.results30]; simp [go_sem, z0, z1, z2, z3, z4, z5, z6, z7]) rfl ⟨⟨s, n, d, r, l, b, g, k⟩, rfl, HOk.out, HF.out⟩
end Go.Proofs.Ytpjnmkijndmemaa.I
