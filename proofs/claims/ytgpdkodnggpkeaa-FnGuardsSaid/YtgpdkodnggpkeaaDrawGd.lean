/-
  A drawn guard is right, and owns its list.
-/
import Derived.Test.YtgpdkodnggpkeaaDrawD
import Derived.Test.YtgpdkodnggpkeaaGdM
import Derived.Test.YtgpdkodnggpkeaaKSta
import Derived.Test.YtgpdkodnggpkeaaStage
namespace Go.Proofs.Ytgpdkodnggpkeaa.D
open Go.RowKit Go.PlainAid
set_option linter.unusedVariables false
set_option linter.unusedSimpArgs false

theorem row_drawn {W W' : World} {k C : Nat} {o : Obj} (h : W.heap[k]? = some o) (hg : W.grownBy W' (some C)) (hk : k ≠ C) : W'.heap[k]? = some o :=
  (hg.block k (row_lt h) (fun e => by cases e; exact hk rfl)).trans h

/-- what is appended to new memory, behind a draw -/
theorem drawn_drew {w W : World} {C B : Nat} {a : Option Addr} {len cap : Nat} (h : Drawn w W C B a len cap) : Drawn w W.drew C B a len cap :=
  ⟨h.1, h.2.1, ⟨h.2.2.os, h.2.2.tape, h.2.2.output, h.2.2.size, h.2.2.block⟩⟩
theorem drawn_put {w W : World} {C B : Nat} {a : Option Addr} {len cap : Nat} (h : Drawn w W C B a len cap) {k : Nat} (i : Nat) (v : Value) (hk : w.heap.size ≤ k) (hC : C < w.heap.size) (hB : B ≤ C) : Drawn w (W.setCell ⟨k, i, none⟩ v) C B a len cap := by
  obtain ⟨⟨j, x, hj, hc⟩, hcode, hg⟩ := h
  refine ⟨⟨j, x, hj, ?_⟩, code_below hcode ((Below.refl _ _).setCell (by show _ ≤ k; omega) v), ?_⟩
  · unfold CurAt
    rw [Below.heap_setCell _ _ _ _ (by show C ≠ k; omega)]
    exact hc
  · have hs : (W.setCell ⟨k, i, none⟩ v).heap.size = W.heap.size := by simp
    exact ⟨hg.os, hg.tape, hg.output, by rw [hs]; exact hg.size, fun m hm hne => (Below.heap_setCell _ _ _ _ (show m ≠ k by omega)).trans (hg.block m hm hne)⟩

theorem onceR (C B : Nat) (a : Option Addr) (len cap : Nat) (n : Int) (h0 : 0 < n) (h1 : n ≤ 256) (w : World) (hC : Cur w C a len cap) (hB : B ≤ C) (hcode : CodeOk w B a len) :
    Calls Try.prog 52 #[.pointer (some ⟨C, 0, none⟩), .int .i64 n] w fun e w' => ∃ b : Bool, e = .returned (.bool b) ∧ Drawn w w' C B a len cap := by
  have HCu : Hid (Cur w C a len cap) := hC
  have HCo : Hid (CodeOk w B a len) := hcode
  clear hC hcode
  go_enter Try.func52, Try.ntmps52
  go_wp2_with fail
  refine (below28 C B a len cap n h0 (by omega) _ HCu.out hB HCo.out).mono ?_
  rintro e w1 ⟨x, rfl, x0, x1, hD⟩
  have HD : Hid (Drawn w w1 C B a len cap) := hD
  clear hD HCu HCo
  go_wp2
  go_ret
  exact ⟨_, rfl, HD.out⟩

theorem mem_ifn {i k : Nat} {x : Bool} : (i ∈ (if x = true then ([] : List Nat) else [k])) ↔ (x = false ∧ i = k) := by cases x <;> simp
theorem mem_ifc {i k : Nat} {p : Prop} [Decidable p] : (i ∈ (if p then [k] else ([] : List Nat))) ↔ (p ∧ i = k) := by by_cases h : p <;> simp [h]
/-- what stands while a guard is drawn -/
def LG (w W : World) (C B : Nat) (a : Option Addr) (len cap : Nat) (q : Option Addr) (n c : Nat) (l : List Int) (al : Int) : Prop :=
  Drawn w W C B a len cap ∧ W.heap[w.heap.size]? = some (.cells #[.slice none 0 0, .int .i64 0] 26) ∧ W.heap[w.heap.size + 1]? = some (.cells #[.slice q n c, .int .i64 al] 26) ∧ GOwn W (w.heap.size + 2) q n c l ∧ GdR l al ∧ C < w.heap.size ∧ B ≤ C
theorem drawn_belG {w W W' : World} {C B : Nat} {a : Option Addr} {len cap : Nat} (h : Drawn w W C B a len cap) (hB : B ≤ W.heap.size) (hb : Below W.heap.size W W') : Drawn w W' C B a len cap := by
  obtain ⟨⟨j, x, hj, hc⟩, hcode, hg⟩ := h
  refine ⟨⟨j, x, hj, ?_⟩, code_below hcode (hb.mono hB), ?_⟩
  · unfold CurAt at hc ⊢
    rw [hb.block C (row_lt hc)]
    exact hc
  · exact ⟨hb.os.trans hg.os, hb.tape.trans hg.tape, hb.output.trans hg.output, Nat.le_trans hg.size hb.size, fun m hm hne => (hb.block m (Nat.lt_of_lt_of_le hm hg.size)).trans (hg.block m hm hne)⟩
theorem drawn_putG {w W W' : World} {C B k : Nat} {a : Option Addr} {len cap : Nat} {o : Obj} (h : Drawn w W C B a len cap) (hp : PutG W W' k o) (hk : w.heap.size ≤ k) (hC : C < w.heap.size) (hB : B ≤ C) : Drawn w W' C B a len cap := by
  obtain ⟨⟨j, x, hj, hc⟩, hcode, hg⟩ := h
  have hb := hp.2.2.2 0 W (Nat.zero_le _) (Below.refl _ _)
  have hb2 := hp.2.2.2 B W (by omega) (Below.refl _ _)
  refine ⟨⟨j, x, hj, ?_⟩, code_below hcode hb2, ?_⟩
  · unfold CurAt at hc ⊢
    rw [hp.2.1 C (by omega)]
    exact hc
  · exact ⟨hb.os.trans hg.os, hb.tape.trans hg.tape, hb.output.trans hg.output, by rw [hp.2.2.1]; exact hg.size, fun m hm hne => (hp.2.1 m (by omega)).trans (hg.block m hm hne)⟩
theorem LG.on {w W W' : World} {C B : Nat} {a : Option Addr} {len cap : Nat} {q : Option Addr} {n c : Nat} {l : List Int} {al : Int} (h : LG w W C B a len cap q n c l al) (hD : Drawn W W' C B a len cap) : LG w W' C B a len cap q n c l al := by
  obtain ⟨h1, h2, h3, h4, h5, h6, h7⟩ := h
  exact ⟨drawn_trans h1 hD, row_drawn h2 hD.2.2 (by omega), row_drawn h3 hD.2.2 (by omega), h4.grown hD.2.2 (by omega), h5, h6, h7⟩
theorem LG.bel {w W W' : World} {C B : Nat} {a : Option Addr} {len cap : Nat} {q : Option Addr} {n c : Nat} {l : List Int} {al : Int} (h : LG w W C B a len cap q n c l al) (hb : Below W.heap.size W W') : LG w W' C B a len cap q n c l al := by
  obtain ⟨h1, h2, h3, h4, h5, h6, h7⟩ := h
  have := row_lt h2
  exact ⟨drawn_belG h1 (by omega) hb, row_on h2 hb, row_on h3 hb, h4.on hb, h5, h6, h7⟩
theorem LG.drew {w W : World} {C B : Nat} {a : Option Addr} {len cap : Nat} {q : Option Addr} {n c : Nat} {l : List Int} {al : Int} (h : LG w W C B a len cap q n c l al) : LG w W.drew C B a len cap q n c l al := by
  obtain ⟨h1, h2, h3, h4, h5, h6, h7⟩ := h
  exact ⟨drawn_drew h1, h2, h3, h4, h5, h6, h7⟩
/-- another guard is stored in its place -/
theorem LG.put {w W : World} {C B : Nat} {a : Option Addr} {len cap : Nat} {q : Option Addr} {n c : Nat} {l : List Int} {al : Int} (h : LG w W C B a len cap q n c l al) {g n' c' : Nat} {l' : List Int} (al' : Int) (ho : OwnN W (w.heap.size + 2) g n' c' l') (hr : GdR l' al') :
    LG w ((W.setCell ⟨w.heap.size + 1, 0, none⟩ (.slice (some ⟨g, 0, none⟩) n' c')).setCell ⟨w.heap.size + 1, 1, none⟩ (.int .i64 al')) C B a len cap (some ⟨g, 0, none⟩) n' c' l' al' := by
  obtain ⟨h1, h2, h3, h4, h5, h6, h7⟩ := h
  have hge := ho.ge
  refine ⟨drawn_put (drawn_put h1 0 _ (by omega) h6 h7) 1 _ (by omega) h6 h7, ?_, two_sets h3, .inr ⟨g, rfl, (ho.set (by omega)).set (by omega)⟩, hr, h6, h7⟩
  rw [Below.heap_setCell _ _ _ _ (by simp), Below.heap_setCell _ _ _ _ (by simp)]
  exact h2
theorem LG.calm {w W : World} {C B : Nat} {a : Option Addr} {len cap : Nat} {q : Option Addr} {n c : Nat} {l : List Int} {al : Int} (h : LG w W C B a len cap q n c l al) : LG w (W.setCell ⟨w.heap.size + 1, 1, none⟩ (.int .i64 0)) C B a len cap q n c l 0 := by
  obtain ⟨h1, h2, h3, h4, h5, h6, h7⟩ := h
  refine ⟨drawn_put h1 1 _ (by omega) h6 h7, (Below.heap_setCell _ _ _ _ (by simp)).trans h2, set_b h3, h4.far (fun k hk => Below.heap_setCell _ _ _ _ (by show k ≠ w.heap.size + 1; omega)), gd_calm h5, h6, h7⟩
/-- the states of 'g = Pass(g, ..)': whether g is loaded, whether the number is drawn -/
structure SA (w : World) (C B : Nat) (a : Option Addr) (len cap : Nat) (q : Option Addr) (n c : Nat) (l : List Int) (al : Int) (x y : Bool) (t0 t2 : Value) (W : World) : Prop where
  x : x = true → t0 = .agg #[.slice q n c, .int .i64 al]
  y : y = true → ∃ v : Int, t2 = .int .i64 v
  st : LG w W C B a len cap q n c l al
structure SB (w : World) (C B : Nat) (a : Option Addr) (len cap : Nat) (q : Option Addr) (n c : Nat) (l : List Int) (al : Int) (x : Bool) (k : Fin 3) (t0 t2 t4 : Value) (W : World) : Prop where
  x : x = true → t0 = .agg #[.slice q n c, .int .i64 al]
  y : 0 < k → ∃ v : Int, t2 = .int .i64 v
  z : 1 < k → ∃ s : Bool, t4 = .bool s
  st : LG w W C B a len cap q n c l al
set_option maxRecDepth 100000 in
set_option maxHeartbeats 8000000 in
theorem guardD (C B : Nat) (a : Option Addr) (len cap : Nat) (w : World) (hC : Cur w C a len cap) (hB : B ≤ C) (hcode : CodeOk w B a len) :
    Calls Try.prog 30 #[.pointer (some ⟨C, 0, none⟩)] w fun e w' => ∃ (q : Option Addr) (n c : Nat) (l : List Int) (al : Int), e = .returned (.agg #[.slice q n c, .int .i64 al]) ∧ GOwn w' (w.heap.size + 2) q n c l ∧ GdR l al ∧ Drawn w w' C B a len cap := by
  have hlt := cur_lt hC
  have HL0 : Hid (LG w ((w.alloc (.cells #[.slice none 0 0, .int .i64 0] 26)).alloc (.cells #[.slice none 0 0, .int .i64 0] 26)) C B a len cap none 0 0 [] 0) := by
    refine ⟨drawn_alloc (drawn_alloc ⟨hC, hcode, World.grownBy.refl _ _⟩ (by omega) _) (by simp; omega) _, row_on (heap_new w _) (alG _ _), al_atG (w.alloc (.cells #[.slice none 0 0, .int .i64 0] 26)) _ (by simp), .inl ⟨rfl, rfl, rfl, rfl⟩, gd_new, hlt, hB⟩
  clear hC hcode
  go_enter Try.func30, Try.ntmps30
  go_wp2
  go_loopg [4] 14 (fun gk i wr => ∃ (j : Nat) (q : Option Addr) (n c : Nat) (l : List Int) (al : Int), j + gk = 14 ∧ i = .int .i64 j ∧ Hid (LG w wr C B a len cap q n c l al))
  case atStart => exact ⟨0, none, 0, 0, [], 0, by omega, rfl, HL0⟩
  case round =>
    clear HL0
    obtain ⟨j, q, n, c, l, al, hj, rfl, HL⟩ := hrel
    go_wp2_with fail
    refine (below28 C B a len cap 14 (by omega) (by omega) _ HL.out.1.1 hB HL.out.1.2.1).mono ?_
    rintro e w2 ⟨x, rfl, x0, x1, hD⟩
    have HL2 : Hid (LG w w2 C B a len cap q n c l al) := HL.out.on hD
    clear hD HL
    by_cases hx : (j : Int) < x
    · have HLd : Hid (LG w w2.drew C B a len cap q n c l al) := HL2.out.drew
      clear HL2
      have qi : IntKind.i64.wrap ((j : Int) + 1) = (j : Int) + 1 := wrap_in (by omega) (by omega)
      go_upto_region 5 with fail
      refine wp_region_held_drew (S := fun w' => True) (by kernel_rfl) trivial (fun hHeld => ?_)
      refine wpAnyH_take (i := 1) (v := ?_) rfl (by kernel_rfl) (by kernel_rfl) (by kernel_rfl) (fun _ _ _ h => h) (Or.inl ⟨by rfl, ?_⟩) (by assumption) ?_
      rotate_left
      · intro w_ hSw; go_simp <;> with_reducible rfl
      try simp only [Act.put, List.setIfInBounds_toArray, List.set_cons_zero, List.set_cons_succ, List.getElem_toArray, List.getElem_cons_zero, List.getElem_cons_succ]
      refine wpAnyH_named (fun a0 ha0 => ?_)
      have HA0 : Hid (a0 = _) := ha0
      clear ha0
      refine any_states (σ := Bool × Bool) (fun s => #[s.1, true, s.2, false, false]) (fun s => (if s.1 = true then [] else [0]) ++ (if s.2 = true then [] else [2])) (fun s => 2 + (if s.1 then 0 else 1) + (if s.2 then 0 else 1)) (fun s => true) (fun s => s.1 && s.2) (fun s a_ w_ => ∃ t0 t2 : Value, a_ = (a0.put (some 12) t0).put (some 14) t2 ∧ SA w C B a len cap q n c l al s.1 s.2 t0 t2 w_) ?_ ?_ ?_ 4 (false, false) _ _ _ (by decide) (by decide) (by decide) trivial ⟨a0.tmps.getD 12 undef, a0.tmps.getD 14 undef, (by simp only [put_self]), ⟨fun h => absurd h (by decide), fun h => absurd h (by decide), HLd.out⟩⟩
      · rintro ⟨x, y⟩
        dsimp only
        revert x y
        decide +kernel
      · rintro ⟨x, y⟩ i hok hfin hi
        dsimp only at hok hfin hi
        simp only [List.mem_append, mem_ifn] at hi
        rcases hi with hi | hi
        · obtain ⟨hx, rfl⟩ := hi
          subst hx
          refine ⟨(true, y), rfl, rfl, ?_, ?_⟩
          · clear hfin hok; revert y; decide +kernel
          rintro a_ w_ hSw ⟨t0, t2, rfl, hn⟩
          dsimp only at hn ⊢
          refine wpOp_step (i := 0) rfl (fun K hK => ?_)
          have HK : Shut _ := hK
          clear hK
          rw [HA0.out]
          simp only [Act.put, List.setIfInBounds_toArray, List.set_cons_zero, List.set_cons_succ]
          have kk := row2_cells hn.st.2.2.1
          go_simp
          exact HK.out _ _ ⟨trivial, _, t2, (by rw [HA0.out]; simp only [Act.put, List.setIfInBounds_toArray, List.set_cons_zero, List.set_cons_succ]), ⟨fun _ => rfl, hn.y, hn.st⟩⟩
        · obtain ⟨hy, rfl⟩ := hi
          subst hy
          refine ⟨(x, true), rfl, rfl, ?_, ?_⟩
          · clear hfin hok; revert x; decide +kernel
          rintro a_ w_ hSw ⟨t0, t2, rfl, hn⟩
          dsimp only at hn ⊢
          refine wpOp_step (i := 2) rfl (fun K hK => ?_)
          have HK : Shut _ := hK
          clear hK
          rw [HA0.out]
          simp only [Act.put, List.setIfInBounds_toArray, List.set_cons_zero, List.set_cons_succ]
          go_simp
          go_at_call 33
          refine (below28 C B a len cap 8 (by omega) (by omega) _ hn.st.1.1 hB hn.st.1.2.1).mono ?_
          rintro e w2 ⟨v, rfl, _, _, hD⟩
          have hn2 := hn.st.on hD
          go_wp2_with fail
          exact HK.out _ _ ⟨trivial, t0, _, (by rw [HA0.out]; simp only [Act.put, List.setIfInBounds_toArray, List.set_cons_zero, List.set_cons_succ]), ⟨hn.x, fun _ => ⟨v, rfl⟩, hn2⟩⟩
      · rintro ⟨x, y⟩ a_ w_ f2 hok hfin hf hSw ⟨t0, t2, rfl, hn⟩
        dsimp only at hok hfin hf hn ⊢
        obtain ⟨rfl, rfl⟩ : x = true ∧ y = true := by simpa using hfin
        obtain ⟨f3, rfl⟩ : ∃ f3, f2 = f3 + 2 := ⟨f2 - 2, by have h3 : 2 ≤ f2 := (by first | exact hf | simpa using hf); omega⟩
        obtain rfl := hn.x rfl
        obtain ⟨v, rfl⟩ := hn.y rfl
        obtain ⟨Y8, hY8⟩ : ∃ Y8, passL true l v = Y8 := ⟨_, rfl⟩
        obtain ⟨n8, hn8_⟩ : ∃ n8, Y8.length = n8 := ⟨_, rfl⟩
        have HG8 : Hid (GdR Y8 al) := by show GdR Y8 al; rw [← hY8]; exact passL_ok hn.st.2.2.2.2.1 true v
        have HK8 : Hid (∀ W, Rd W q l → Calls Try.prog 29 #[.agg #[.slice q n c, .int .i64 al], .int .i64 v] W fun e w' => ∃ g c', e = .returned (.agg #[.slice (some ⟨g, 0, none⟩) n8 c', .int .i64 al]) ∧ OwnN w' (W.heap.size + 2) g n8 c' Y8 ∧ Below W.heap.size W w') := fun W hr => passS q al l n c v true Y8 n8 hY8 hn8_ hn.st.2.2.2.1.len (by have := hn.st.2.2.2.2.1.1; have := hn.st.2.2.2.1.len; omega) hn.st.2.2.2.1.nn ⟨fun _ => hn.st.2.2.2.2.1, fun _ => rfl⟩ W hr
        clear hY8 hn8_
        rw [HA0.out]
        simp only [Act.put, List.setIfInBounds_toArray, List.set_cons_zero, List.set_cons_succ]
        refine wpAnyH_ready (rs := [3]) (by kernel_rfl) (by simp) ?_
        refine AllReadyH.cons rfl (fun K hK => ?_) AllReadyH.nil
        go_simp
        go_at_call 29
        refine (HK8.out _ hn.st.2.2.2.1.rd).mono ?_
        rintro e w8 ⟨g8, c8, rfl, hown8, hb8⟩
        have hn8 := hn.st.bel hb8
        have ho8 : OwnN w8 (w.heap.size + 2) g8 n8 c8 Y8 := hown8.mono (by have := row_lt hn.st.2.1; omega)
        go_wp2_with fail
        refine hK.out _ _ trivial (fun hHeld2 => ?_)
        clear hK K
        simp only [Act.put, List.setIfInBounds_toArray, List.set_cons_zero, List.set_cons_succ]
        refine wpAnyH_ready (rs := [4]) (by kernel_rfl) (by simp) ?_
        refine AllReadyH.cons rfl (fun K hK => ?_) AllReadyH.nil
        have kk := row2_cells hn8.2.2.1
        go_simp
        have HLn : Hid (LG w ((w8.setCell ⟨w.heap.size + 1, 0, none⟩ (.slice (some ⟨g8, 0, none⟩) n8 c8)).setCell ⟨w.heap.size + 1, 1, none⟩ (.int .i64 al)) C B a len cap (some ⟨g8, 0, none⟩) n8 c8 Y8 al) := hn8.put al ho8 HG8.out
        refine hK.out _ _ trivial (fun hHeld3 => ?_)
        clear hK K hHeld2 hHeld3 hn hn8 hb8 ho8 hown8 kk
        simp only [Act.put, List.setIfInBounds_toArray, List.set_cons_zero, List.set_cons_succ]
        refine wpAnyH_done (by kernel_rfl) ?_ _
        generalize ((w8.setCell ⟨w.heap.size + 1, 0, none⟩ (.slice (some ⟨g8, 0, none⟩) n8 c8)).setCell ⟨w.heap.size + 1, 1, none⟩ (.int .i64 al)) = w9 at *
        clear HK8 HG8 HLd
        go_wp2_with fail
        refine (onceR C B a len cap 6 (by omega) (by omega) _ HLn.out.1.1 hB HLn.out.1.2.1).mono ?_
        rintro e w10 ⟨s6, rfl, hD⟩
        have HL10 : Hid (LG w w10 C B a len cap (some ⟨g8, 0, none⟩) n8 c8 Y8 al) := HLn.out.on hD
        clear hD HLn
        cases s6
        · go_wp2
          go_roundg (gk - 1)
          case measure => omega
          case rel => exact ⟨j + 1, some ⟨g8, 0, none⟩, n8, c8, Y8, al, by omega, by go_num, HL10⟩
        · have HLd : Hid (LG w w10.drew C B a len cap (some ⟨g8, 0, none⟩) n8 c8 Y8 al) := HL10.out.drew
          clear HL10
          go_upto_region 7 with fail
          obtain ⟨q, hqq⟩ : ∃ q : Option Addr, some (⟨g8, 0, none⟩ : Addr) = q := ⟨_, rfl⟩
          rw [hqq] at HLd
          clear hqq
          refine wp_region_held_drew (S := fun w' => True) (by kernel_rfl) trivial (fun hHeld => ?_)
          refine wpAnyH_take (i := 1) (v := ?_) rfl (by kernel_rfl) (by kernel_rfl) (by kernel_rfl) (fun _ _ _ h => h) (Or.inl ⟨by rfl, ?_⟩) (by assumption) ?_
          rotate_left
          · intro w_ hSw; go_simp <;> with_reducible rfl
          try simp only [Act.put, List.setIfInBounds_toArray, List.set_cons_zero, List.set_cons_succ, List.getElem_toArray, List.getElem_cons_zero, List.getElem_cons_succ]
          refine wpAnyH_take (i := 3) (v := ?_) rfl (by kernel_rfl) (by kernel_rfl) (by kernel_rfl) (fun _ _ _ h => h) (Or.inl ⟨by rfl, ?_⟩) (by assumption) ?_
          rotate_left
          · intro w_ hSw; go_simp <;> with_reducible rfl
          try simp only [Act.put, List.setIfInBounds_toArray, List.set_cons_zero, List.set_cons_succ, List.getElem_toArray, List.getElem_cons_zero, List.getElem_cons_succ]
          refine wpAnyH_named (fun a0 ha0 => ?_)
          have HA0 : Hid (a0 = _) := ha0
          clear ha0
          refine any_states (σ := Bool × Fin 3) (fun s => #[s.1, true, decide (0 < s.2), true, decide (1 < s.2), false, false]) (fun s => (if s.1 = true then [] else [0]) ++ (if s.2 = 0 then [2] else []) ++ (if s.2 = 1 then [4] else [])) (fun s => 2 + (if s.1 then 0 else 1) + (2 - s.2.val)) (fun s => true) (fun s => s.1 && decide (s.2 = 2)) (fun s a_ w_ => ∃ t0 t2 t4 : Value, a_ = ((a0.put (some 18) t0).put (some 20) t2).put (some 22) t4 ∧ SB w C B a len cap q n8 c8 Y8 al s.1 s.2 t0 t2 t4 w_) ?_ ?_ ?_ 5 (false, 0) _ _ _ (by decide) (by decide) (by decide) trivial ⟨a0.tmps.getD 18 undef, a0.tmps.getD 20 undef, a0.tmps.getD 22 undef, (by simp only [put_self]), ⟨fun h => absurd h (by decide), fun h => absurd h (by decide), fun h => absurd h (by decide), HLd.out⟩⟩
          · rintro ⟨x, k⟩
            dsimp only
            revert x k
            decide +kernel
          · rintro ⟨x, k⟩ i hok hfin hi
            dsimp only at hok hfin hi
            simp only [List.mem_append, mem_ifn, mem_ifc] at hi
            rcases hi with (hi | hi) | hi
            · obtain ⟨hx, rfl⟩ := hi
              subst hx
              refine ⟨(true, k), rfl, rfl, ?_, ?_⟩
              · clear hfin hok; revert k; decide +kernel
              rintro a_ w_ hSw ⟨t0, t2, t4, rfl, hn⟩
              dsimp only at hn ⊢
              refine wpOp_step (i := 0) rfl (fun K hK => ?_)
              have HK : Shut _ := hK
              clear hK
              rw [HA0.out]
              simp only [Act.put, List.setIfInBounds_toArray, List.set_cons_zero, List.set_cons_succ]
              have kk := row2_cells hn.st.2.2.1
              go_simp
              exact HK.out _ _ ⟨trivial, _, t2, t4, (by rw [HA0.out]; simp only [Act.put, List.setIfInBounds_toArray, List.set_cons_zero, List.set_cons_succ]), ⟨fun _ => rfl, hn.y, hn.z, hn.st⟩⟩
            · obtain ⟨rfl, rfl⟩ := hi
              refine ⟨(x, 1), rfl, rfl, ?_, ?_⟩
              · clear hfin hok; revert x; decide +kernel
              rintro a_ w_ hSw ⟨t0, t2, t4, rfl, hn⟩
              dsimp only at hn ⊢
              refine wpOp_step (i := 2) rfl (fun K hK => ?_)
              have HK : Shut _ := hK
              clear hK
              rw [HA0.out]
              simp only [Act.put, List.setIfInBounds_toArray, List.set_cons_zero, List.set_cons_succ]
              go_simp
              go_at_call 33
              refine (below28 C B a len cap 16 (by omega) (by omega) _ hn.st.1.1 hB hn.st.1.2.1).mono ?_
              rintro e w2 ⟨v, rfl, _, _, hD⟩
              have hn2 := hn.st.on hD
              go_wp2_with fail
              exact HK.out _ _ ⟨trivial, t0, _, t4, (by rw [HA0.out]; simp only [Act.put, List.setIfInBounds_toArray, List.set_cons_zero, List.set_cons_succ]), ⟨hn.x, fun _ => ⟨v, rfl⟩, fun h => absurd h (by decide), hn2⟩⟩
            · obtain ⟨rfl, rfl⟩ := hi
              refine ⟨(x, 2), rfl, rfl, ?_, ?_⟩
              · clear hfin hok; revert x; decide +kernel
              rintro a_ w_ hSw ⟨t0, t2, t4, rfl, hn⟩
              dsimp only at hn ⊢
              refine wpOp_step (i := 4) rfl (fun K hK => ?_)
              have HK : Shut _ := hK
              clear hK
              rw [HA0.out]
              simp only [Act.put, List.setIfInBounds_toArray, List.set_cons_zero, List.set_cons_succ]
              obtain ⟨v, rfl⟩ := hn.y (by decide)
              go_simp
              go_at_call 52
              refine (onceR C B a len cap 2 (by omega) (by omega) _ hn.st.1.1 hB hn.st.1.2.1).mono ?_
              rintro e w2 ⟨s, rfl, hD⟩
              have hn2 := hn.st.on hD
              go_wp2_with fail
              exact HK.out _ _ ⟨trivial, t0, _, _, (by rw [HA0.out]; simp only [Act.put, List.setIfInBounds_toArray, List.set_cons_zero, List.set_cons_succ]), ⟨hn.x, fun _ => ⟨v, rfl⟩, fun _ => ⟨s, rfl⟩, hn2⟩⟩
          · rintro ⟨x, k⟩ a_ w_ f2 hok hfin hf hSw ⟨t0, t2, t4, rfl, hn⟩
            dsimp only at hok hfin hf hn ⊢
            obtain ⟨rfl, rfl⟩ : x = true ∧ k = 2 := by simpa using hfin
            obtain ⟨f3, rfl⟩ : ∃ f3, f2 = f3 + 2 := ⟨f2 - 2, by have h3 : 2 ≤ f2 := (by first | exact hf | simpa using hf); omega⟩
            obtain rfl := hn.x rfl
            obtain ⟨v, rfl⟩ := hn.y (by decide)
            obtain ⟨s, rfl⟩ := hn.z (by decide)
            obtain ⟨al8, hal8⟩ : ∃ al8, feelA true al v s = al8 := ⟨_, rfl⟩
            obtain ⟨n7, hn7_⟩ : ∃ n7, n8 = n7 := ⟨_, rfl⟩
            have HG8 : Hid (GdR Y8 al8) := by show GdR Y8 al8; rw [← hal8]; exact feel_ok hn.st.2.2.2.2.1 true v s
            have HK8 : Hid (∀ W, Rd W q Y8 → Calls Try.prog 25 #[.agg #[.slice q n8 c8, .int .i64 al], .int .i64 v, .bool s] W fun e w' => ∃ g c', e = .returned (.agg #[.slice (some ⟨g, 0, none⟩) n7 c', .int .i64 al8]) ∧ OwnN w' (W.heap.size + 2) g n7 c' Y8 ∧ Below W.heap.size W w') := fun W hr => by
              rw [← hn7_]
              exact feelS q al Y8 n8 c8 v s true al8 hal8 hn.st.2.2.2.1.len (by have := hn.st.2.2.2.2.1.1; have := hn.st.2.2.2.1.len; omega) hn.st.2.2.2.1.nn ⟨fun _ => hn.st.2.2.2.2.1, fun _ => rfl⟩ W hr
            clear hal8 hn7_
            rw [HA0.out]
            simp only [Act.put, List.setIfInBounds_toArray, List.set_cons_zero, List.set_cons_succ]
            refine wpAnyH_ready (rs := [5]) (by kernel_rfl) (by simp) ?_
            refine AllReadyH.cons rfl (fun K hK => ?_) AllReadyH.nil
            go_simp
            go_at_call 25
            refine (HK8.out _ hn.st.2.2.2.1.rd).mono ?_
            rintro e w8 ⟨g7, c7, rfl, hown7, hb8⟩
            have hn8 := hn.st.bel hb8
            have ho8 : OwnN w8 (w.heap.size + 2) g7 n7 c7 Y8 := hown7.mono (by have := row_lt hn.st.2.1; omega)
            go_wp2_with fail
            refine hK.out _ _ trivial (fun hHeld2 => ?_)
            clear hK K
            simp only [Act.put, List.setIfInBounds_toArray, List.set_cons_zero, List.set_cons_succ]
            refine wpAnyH_ready (rs := [6]) (by kernel_rfl) (by simp) ?_
            refine AllReadyH.cons rfl (fun K hK => ?_) AllReadyH.nil
            have kk := row2_cells hn8.2.2.1
            go_simp
            have HLn : Hid (LG w ((w8.setCell ⟨w.heap.size + 1, 0, none⟩ (.slice (some ⟨g7, 0, none⟩) n7 c7)).setCell ⟨w.heap.size + 1, 1, none⟩ (.int .i64 al8)) C B a len cap (some ⟨g7, 0, none⟩) n7 c7 Y8 al8) := hn8.put al8 ho8 HG8.out
            refine hK.out _ _ trivial (fun hHeld3 => ?_)
            clear hK K hHeld2 hHeld3 hn hn8 hb8 ho8 hown7 kk
            simp only [Act.put, List.setIfInBounds_toArray, List.set_cons_zero, List.set_cons_succ]
            refine wpAnyH_done (by kernel_rfl) ?_ _
            generalize ((w8.setCell ⟨w.heap.size + 1, 0, none⟩ (.slice (some ⟨g7, 0, none⟩) n7 c7)).setCell ⟨w.heap.size + 1, 1, none⟩ (.int .i64 al8)) = w97 at *
            clear HK8 HG8 HLd
            go_wp2
            go_roundg (gk - 1)
            case measure => omega
            case rel => exact ⟨j + 1, some ⟨g7, 0, none⟩, n7, c7, Y8, al8, by omega, by go_num, HLn⟩
    · go_wp2_with fail
      refine (onceR C B a len cap 2 (by omega) (by omega) _ HL2.out.1.1 hB HL2.out.1.2.1).mono ?_
      rintro e w3 ⟨s, rfl, hD⟩
      have HL3 : Hid (LG w w3 C B a len cap q n c l al) := HL2.out.on hD
      clear hD HL2
      obtain ⟨al4, W4, HL4, hW4⟩ : ∃ (al4 : Int) (W4 : World), Hid (LG w W4 C B a len cap q n c l al4) ∧ Hid (if s = true then al4 = 0 ∧ W4 = w3.setCell ⟨w.heap.size + 1, 1, none⟩ (.int .i64 0) else al4 = al ∧ W4 = w3) := by
        cases s
        · exact ⟨al, w3, HL3, ⟨rfl, rfl⟩⟩
        · exact ⟨0, _, HL3.out.calm, ⟨rfl, rfl⟩⟩
      have k3 := row2_cells HL3.out.2.2.1
      cases s
      · obtain ⟨rfl, rfl⟩ : al4 = al ∧ W4 = w3 := hW4.out
        have k4 := row2_cells HL4.out.2.2.1
        go_upto_region 10 with fail
        go_wp2_with (refine listStoreG rfl rfl _ _ _ rfl rfl w.heap.size q n c al4 rfl rfl HL4.out.2.1 ?_)
        intro w9 hput
        have HG9 : Hid (GOwn w9 (w.heap.size + 2) q n c l) := HL4.out.2.2.2.1.far (fun k hk => hput.2.1 k (by omega))
        have HD9 : Hid (Drawn w w9 C B a len cap) := drawn_putG HL4.out.1 hput (Nat.le_refl _) HL4.out.2.2.2.2.2.1 hB
        have HR9 : Hid (GdR l al4) := HL4.out.2.2.2.2.1
        obtain ⟨z0, z1, _⟩ := row2_cells hput.1
        clear hput
        go_wp2
        refine bodyPost_ret (v := .agg #[.slice q n c, .int .i64 al4]) (by simp only [results, Try.results30]; simp [go_sem, z0, z1]) rfl ⟨q, n, c, l, _, rfl, HG9.out, HR9.out, HD9.out⟩
      · obtain ⟨rfl, rfl⟩ : al4 = 0 ∧ W4 = w3.setCell ⟨w.heap.size + 1, 1, none⟩ (.int .i64 0) := hW4.out
        have k4 := row2_cells HL4.out.2.2.1
        go_upto_region 10 with fail
        go_wp2_with (refine listStoreG rfl rfl _ _ _ rfl rfl w.heap.size q n c 0 rfl rfl HL4.out.2.1 ?_)
        intro w9 hput
        have HG9 : Hid (GOwn w9 (w.heap.size + 2) q n c l) := HL4.out.2.2.2.1.far (fun k hk => hput.2.1 k (by omega))
        have HD9 : Hid (Drawn w w9 C B a len cap) := drawn_putG HL4.out.1 hput (Nat.le_refl _) HL4.out.2.2.2.2.2.1 hB
        have HR9 : Hid (GdR l 0) := HL4.out.2.2.2.2.1
        obtain ⟨z0, z1, _⟩ := row2_cells hput.1
        clear hput
        go_wp2
        refine bodyPost_ret (v := .agg #[.slice q n c, .int .i64 0]) (by simp only [results, Try.results30]; simp [go_sem, z0, z1]) rfl ⟨q, n, c, l, _, rfl, HG9.out, HR9.out, HD9.out⟩
end Go.Proofs.Ytgpdkodnggpkeaa.D
