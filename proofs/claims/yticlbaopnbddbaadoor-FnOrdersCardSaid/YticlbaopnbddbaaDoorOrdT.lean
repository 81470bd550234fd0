/-
  OrderText of the specification.
-/
import Derived.Test.YticlbaopnbddbaaDoorOrd
import Derived.Test.YticlbaopnbddbaaDoorRoundV
import Derived.Test.YticlbaopnbddbaaDoorQSld
import Derived.Test.YticlbaopnbddbaaDoorKSta
import Derived.Test.YticlbaopnbddbaaDoorStage
import Derived.Deep.CutBlock
namespace Go.Proofs.YticlbaopnbddbaaDoor
open Go.RowKit Go.PlainAid
set_option linter.unusedVariables false
set_option linter.unusedSimpArgs false

theorem mem_ifc {i k : Nat} {p : Prop} [Decidable p] : (i ∈ (if p then [k] else ([] : List Nat))) ↔ (p ∧ i = k) := by by_cases h : p <;> simp [h]
theorem alQ (w : World) (o : Obj) : Below w.heap.size w (w.alloc o) := (Below.refl _ _).alloc (Nat.le_refl _) _
theorem celQ {W W' : World} {p : Addr} {v : Value} (h : W.cell? p = some v) (hb : Below W.heap.size W W') : W'.cell? p = some v := (hb.cell (World.block_lt_of_cell? W p h)).trans h
def kB (k : Int) : ByteArray := ⟨#[UInt8.ofNat k.toNat]⟩
def vB (n : Int) : ByteArray := ⟨(Plain.vt n.toNat).toArray⟩
def ordB (k n d v : Int) : ByteArray := kB k ++ vB n ++ vB d ++ vB v
def ordT (k n d v : Int) : ByteArray := ordB k n d v ++ Q.sigil (ordB k n d v)
theorem vB_size {n : Int} (h : n ≤ 1000000000) : (vB n).size ≤ 5 := by
  show (Plain.vt n.toNat).toArray.size ≤ 5
  rw [List.size_toArray]
  exact V.vt_five (by omega)
theorem kB_size (k : Int) : (kB k).size = 1 := rfl
theorem kind_run (k : Int) (h1 : 1 ≤ k) (h6 : k ≤ 6) (g : Nat) (w : World) (h : w.heap[g]? = some (.cells #[.int .u8 k] 5)) : (convert 22 9 (.slice (some ⟨g, 0, none⟩) 1 1)).run Tryd.prog w = .ok (.string (kB k)) w := by
  have e := run_convert_bytes_back (P := Tryd.prog) w 22 9 5 ⟨g, 0, none⟩ 1 [UInt8.ofNat k.toNat] Tryd.underlying22 Tryd.underlying5 Tryd.underlying9 (fun j hj => by
    have : j = 0 := by simpa using hj
    subst this
    have e2 : ((UInt8.ofNat k.toNat).toNat : Int) = k := by rw [UInt8.toNat_ofNat']; omega
    simp [World.cell?, h, Addr.add, e2]
    omega)
  exact e
structure OT (k n d v : Int) (x : Fin 3) (c m : Fin 4) (t10 t11 t14 t15 t18 t19 t22 t23 : Value) (w : World) : Prop where
  s : x = 1 → ∃ g, t10 = .slice (some ⟨g, 0, none⟩) 1 1 ∧ w.heap[g]? = some (.cells #[.int .u8 k] 5)
  b : x = 2 → t11 = .string (kB k)
  fn : 0 < c → t14 = .string (vB n)
  fd : 1 < c → t18 = .string (vB d)
  fv : 2 < c → t22 = .string (vB v)
  m1 : 0 < m → t15 = .string (kB k ++ vB n)
  m2 : 1 < m → t19 = .string (kB k ++ vB n ++ vB d)
  m3 : 2 < m → t23 = .string (kB k ++ vB n ++ vB d ++ vB v)
theorem OT.on {k n d v : Int} {x : Fin 3} {c m : Fin 4} {t10 t11 t14 t15 t18 t19 t22 t23 : Value} {w w' : World} (h : OT k n d v x c m t10 t11 t14 t15 t18 t19 t22 t23 w) (hb : Below w.heap.size w w') : OT k n d v x c m t10 t11 t14 t15 t18 t19 t22 t23 w' :=
  ⟨fun e => by obtain ⟨g, e1, e2⟩ := h.s e; exact ⟨g, e1, row_on e2 hb⟩, h.b, h.fn, h.fd, h.fv, h.m1, h.m2, h.m3⟩
set_option maxRecDepth 100000 in
set_option maxHeartbeats 4000000 in
theorem textS (k n d v : Int) (hR : OrdR k n d v) (w : World) : Calls Tryd.prog 16 #[ordV k n d v] w fun e w' => e = .returned (.tuple #[.string (ordT k n d v), .bool true]) ∧ Below w.heap.size w w' := by
  obtain ⟨⟨hk1, hk6⟩, b1, b2, b3⟩ := hR.bd
  have HR : Hid (OrdR k n d v) := hR
  have s1 := vB_size (n := n) (by omega)
  have s2 := vB_size (n := d) (by omega)
  have s3 := vB_size (n := v) (by omega)
  have s0 := kB_size k
  have HB0 : Hid (Below w.heap.size w (w.alloc (.cells #[.int .i64 k, .int .i64 n, .int .i64 d, .int .i64 v] 25))) := (Below.refl _ _).alloc (Nat.le_refl _) _
  have HK0 : Hid ((w.alloc (.cells #[.int .i64 k, .int .i64 n, .int .i64 d, .int .i64 v] 25)).heap[w.heap.size]? = some (.cells #[.int .i64 k, .int .i64 n, .int .i64 d, .int .i64 v] 25)) := heap_new w _
  have EV : Hid (ordV k n d v = .agg #[.int .i64 k, .int .i64 n, .int .i64 d, .int .i64 v]) := rfl
  have hk256 : k % 256 = k := by omega
  clear hR
  have k0 := box4_cells HK0.out
  unfold ordV
  go_enter Tryd.func16, Tryd.ntmps16
  go_wp2_with fail
  refine (ordokS k n d v true ⟨fun _ => HR.out, fun _ => rfl⟩ _).mono ?_
  rintro e W1 ⟨rfl, hb1⟩
  have HK1 : Hid (W1.heap[w.heap.size]? = some (.cells #[.int .i64 k, .int .i64 n, .int .i64 d, .int .i64 v] 25)) := row_on HK0.out hb1
  have HB1 : Hid (Below w.heap.size w W1) := bel_on (Nat.le_refl _) HB0.out hb1
  clear hb1 HK0 HB0 k0
  have ki := box4_cells HK1.out
  go_upto_region 3 with fail
  refine wp_region_held_drew (S := fun w' => w'.cell? ⟨w.heap.size, 0, none⟩ = some (.int .i64 k) ∧ w'.cell? ⟨w.heap.size, 1, none⟩ = some (.int .i64 n) ∧ w'.cell? ⟨w.heap.size, 2, none⟩ = some (.int .i64 d) ∧ w'.cell? ⟨w.heap.size, 3, none⟩ = some (.int .i64 v) ∧ Below w.heap.size w w') (by kernel_rfl) ⟨ki.1.1, ki.1.2.1, ki.1.2.2.1, ki.1.2.2.2, HB1.out.drew⟩ (fun hHeld => ?_)
  refine wpAnyH_take (i := 0) (v := ?_) rfl (by kernel_rfl) (by kernel_rfl) (by kernel_rfl) (fun _ _ _ h => h) (Or.inl ⟨by rfl, ?_⟩) (by assumption) ?_
  rotate_left
  · intro w_ hSw; (try obtain ⟨z0_, z1_, z2_, z3_, z4_⟩ := hSw); go_simp <;> with_reducible rfl
  try simp only [Act.put, List.setIfInBounds_toArray, List.set_cons_zero, List.set_cons_succ, List.getElem_toArray, List.getElem_cons_zero, List.getElem_cons_succ]
  refine wpAnyH_take (i := 1) (v := ?_) rfl (by kernel_rfl) (by kernel_rfl) (by kernel_rfl) (fun _ _ _ h => h) (Or.inl ⟨by rfl, ?_⟩) (by assumption) ?_
  rotate_left
  · intro w_ hSw; (try obtain ⟨z0_, z1_, z2_, z3_, z4_⟩ := hSw); go_simp <;> with_reducible rfl
  try simp only [Act.put, List.setIfInBounds_toArray, List.set_cons_zero, List.set_cons_succ, List.getElem_toArray, List.getElem_cons_zero, List.getElem_cons_succ]
  refine wpAnyH_take (i := 2) (v := ?_) rfl (by kernel_rfl) (by kernel_rfl) (by kernel_rfl) (fun _ _ _ h => h) (Or.inl ⟨by rfl, ?_⟩) (by assumption) ?_
  rotate_left
  · intro w_ hSw; (try obtain ⟨z0_, z1_, z2_, z3_, z4_⟩ := hSw); go_simp <;> with_reducible rfl
  try simp only [Act.put, List.setIfInBounds_toArray, List.set_cons_zero, List.set_cons_succ, List.getElem_toArray, List.getElem_cons_zero, List.getElem_cons_succ]
  refine wpAnyH_take (i := 5) (v := ?_) rfl (by kernel_rfl) (by kernel_rfl) (by kernel_rfl) (fun _ _ _ h => h) (Or.inl ⟨by rfl, ?_⟩) (by assumption) ?_
  rotate_left
  · intro w_ hSw; (try obtain ⟨z0_, z1_, z2_, z3_, z4_⟩ := hSw); go_simp <;> with_reducible rfl
  try simp only [Act.put, List.setIfInBounds_toArray, List.set_cons_zero, List.set_cons_succ, List.getElem_toArray, List.getElem_cons_zero, List.getElem_cons_succ]
  refine wpAnyH_take (i := 6) (v := ?_) rfl (by kernel_rfl) (by kernel_rfl) (by kernel_rfl) (fun _ _ _ h => h) (Or.inl ⟨by rfl, ?_⟩) (by assumption) ?_
  rotate_left
  · intro w_ hSw; (try obtain ⟨z0_, z1_, z2_, z3_, z4_⟩ := hSw); go_simp <;> with_reducible rfl
  try simp only [Act.put, List.setIfInBounds_toArray, List.set_cons_zero, List.set_cons_succ, List.getElem_toArray, List.getElem_cons_zero, List.getElem_cons_succ]
  refine wpAnyH_take (i := 9) (v := ?_) rfl (by kernel_rfl) (by kernel_rfl) (by kernel_rfl) (fun _ _ _ h => h) (Or.inl ⟨by rfl, ?_⟩) (by assumption) ?_
  rotate_left
  · intro w_ hSw; (try obtain ⟨z0_, z1_, z2_, z3_, z4_⟩ := hSw); go_simp <;> with_reducible rfl
  try simp only [Act.put, List.setIfInBounds_toArray, List.set_cons_zero, List.set_cons_succ, List.getElem_toArray, List.getElem_cons_zero, List.getElem_cons_succ]
  refine wpAnyH_take (i := 10) (v := ?_) rfl (by kernel_rfl) (by kernel_rfl) (by kernel_rfl) (fun _ _ _ h => h) (Or.inl ⟨by rfl, ?_⟩) (by assumption) ?_
  rotate_left
  · intro w_ hSw; (try obtain ⟨z0_, z1_, z2_, z3_, z4_⟩ := hSw); go_simp <;> with_reducible rfl
  try simp only [Act.put, List.setIfInBounds_toArray, List.set_cons_zero, List.set_cons_succ, List.getElem_toArray, List.getElem_cons_zero, List.getElem_cons_succ]
  refine wpAnyH_take (i := 13) (v := ?_) rfl (by kernel_rfl) (by kernel_rfl) (by kernel_rfl) (fun _ _ _ h => h) (Or.inl ⟨by rfl, ?_⟩) (by assumption) ?_
  rotate_left
  · intro w_ hSw; (try obtain ⟨z0_, z1_, z2_, z3_, z4_⟩ := hSw); go_simp <;> with_reducible rfl
  try simp only [Act.put, List.setIfInBounds_toArray, List.set_cons_zero, List.set_cons_succ, List.getElem_toArray, List.getElem_cons_zero, List.getElem_cons_succ]
  refine wpAnyH_take (i := 14) (v := ?_) rfl (by kernel_rfl) (by kernel_rfl) (by kernel_rfl) (fun _ _ _ h => h) (Or.inl ⟨by rfl, ?_⟩) (by assumption) ?_
  rotate_left
  · intro w_ hSw; (try obtain ⟨z0_, z1_, z2_, z3_, z4_⟩ := hSw); go_simp <;> with_reducible rfl
  try simp only [Act.put, List.setIfInBounds_toArray, List.set_cons_zero, List.set_cons_succ, List.getElem_toArray, List.getElem_cons_zero, List.getElem_cons_succ]
  have hkw : IntKind.u8.wrap k = k := by first | (rw [IntKind.wrap_u8]; omega) | (simp [IntKind.wrap, IntKind.bits, IntKind.signed]; omega)
  rw [hkw]
  refine any_states (σ := Fin 3 × Fin 4 × Fin 4) (fun s => #[true, true, true, decide (0 < s.1), decide (1 < s.1), true, true, decide (0 < s.2.1), decide (0 < s.2.2), true, true, decide (1 < s.2.1), decide (1 < s.2.2), true, true, decide (2 < s.2.1), decide (2 < s.2.2), false, false, false, false, false]) (fun s => (if s.1 = 0 then [3] else []) ++ (if s.1 = 1 then [4] else []) ++ (if s.2.1 = 0 then [7] else []) ++ (if s.2.2 = 0 ∧ s.1 = 2 ∧ 0 < s.2.1 then [8] else []) ++ (if s.2.1 = 1 then [11] else []) ++ (if s.2.2 = 1 ∧ 1 < s.2.1 then [12] else []) ++ (if s.2.1 = 2 then [15] else []) ++ (if s.2.2 = 2 ∧ 2 < s.2.1 then [16] else [])) (fun s => 5 + (2 - s.1.val) + (3 - s.2.1.val) + (3 - s.2.2.val)) (fun s => decide (s.2.2 ≤ s.2.1) && (decide (s.2.2 = 0) || decide (s.1 = 2))) (fun s => decide (s.2.2 = 3)) (fun s a w_ => ∃ t10 t11 t14 t15 t18 t19 t22 t23 : Value, a = ⟨#[.agg #[.int .i64 k, .int .i64 n, .int .i64 d, .int .i64 v], .pointer (some ⟨w.heap.size, 0, none⟩), .string ⟨#[]⟩, .bool false, .agg #[.int .i64 k, .int .i64 n, .int .i64 d, .int .i64 v], .bool true, .bool false, .pointer (some ⟨w.heap.size, 0, none⟩), .int .i64 k, .int .u8 k, t10, t11, .pointer (some ⟨w.heap.size, 1, none⟩), .int .i64 n, t14, t15, .pointer (some ⟨w.heap.size, 2, none⟩), .int .i64 d, t18, t19, .pointer (some ⟨w.heap.size, 3, none⟩), .int .i64 v, t22, t23, undef, undef, undef], []⟩ ∧ Below W1.heap.size W1 w_ ∧ OT k n d v s.1 s.2.1 s.2.2 t10 t11 t14 t15 t18 t19 t22 t23 w_) ?_ ?_ ?_ 13 (0, 0, 0) _ _ _ (by decide) (by decide) (by decide) hHeld ⟨undef, undef, undef, undef, undef, undef, undef, undef, rfl, (Below.refl _ _).drew, ⟨fun h => absurd h (by simp), fun h => absurd h (by simp), fun h => absurd h (by simp), fun h => absurd h (by simp), fun h => absurd h (by simp), fun h => absurd h (by simp), fun h => absurd h (by simp), fun h => absurd h (by simp)⟩⟩
  · rintro ⟨x, c, m⟩
    dsimp only
    revert x c m
    decide +kernel
  · rintro ⟨x, c, m⟩ i hok hfin hi
    dsimp only at hok hfin hi
    simp only [List.mem_append, mem_ifc] at hi
    rcases hi with ((((((hi | hi) | hi) | hi) | hi) | hi) | hi) | hi
    · obtain ⟨rfl, rfl⟩ := hi
      refine ⟨(1, c, m), rfl, ?_, ?_, ?_⟩
      · clear hfin; revert hok; revert c m; decide +kernel
      · clear hfin; revert hok; revert c m; decide +kernel
      rintro a w_ hSw ⟨t10, t11, t14, t15, t18, t19, t22, t23, rfl, hb, hn⟩
      dsimp only at hn ⊢
      refine wpOp_step (i := 3) rfl (fun K hK => ?_)
      have HK : Shut _ := hK
      clear hK
      go_simp
      exact HK.out _ _ ⟨⟨celQ hSw.1 (alQ w_ _), celQ hSw.2.1 (alQ w_ _), celQ hSw.2.2.1 (alQ w_ _), celQ hSw.2.2.2.1 (alQ w_ _), bel_on (Nat.le_refl _) hSw.2.2.2.2 (alQ w_ _)⟩, _, t11, t14, t15, t18, t19, t22, t23, rfl, bel_on (Nat.le_refl _) hb (alQ w_ _), ⟨fun _ => ⟨w_.heap.size, rfl, heap_new w_ _⟩, fun h => absurd h (by simp), hn.fn, hn.fd, hn.fv, hn.m1, hn.m2, hn.m3⟩⟩
    · obtain ⟨rfl, rfl⟩ := hi
      refine ⟨(2, c, m), rfl, ?_, ?_, ?_⟩
      · clear hfin; revert hok; revert c m; decide +kernel
      · clear hfin; revert hok; revert c m; decide +kernel
      rintro a w_ hSw ⟨t10, t11, t14, t15, t18, t19, t22, t23, rfl, hb, hn⟩
      dsimp only at hn ⊢
      refine wpOp_step (i := 4) rfl (fun K hK => ?_)
      have HK : Shut _ := hK
      clear hK
      obtain ⟨g, rfl, hrow⟩ := hn.s rfl
      have hcv := kind_run k hk1 hk6 g w_ hrow
      go_simp
      exact HK.out _ _ ⟨hSw, _, _, t14, t15, t18, t19, t22, t23, rfl, hb, ⟨fun h => absurd h (by simp), fun _ => rfl, hn.fn, hn.fd, hn.fv, hn.m1, hn.m2, hn.m3⟩⟩
    · obtain ⟨rfl, rfl⟩ := hi
      refine ⟨(x, 1, m), rfl, ?_, ?_, ?_⟩
      · clear hfin; revert hok; revert x m; decide +kernel
      · clear hfin; revert hok; revert x m; decide +kernel
      rintro a w_ hSw ⟨t10, t11, t14, t15, t18, t19, t22, t23, rfl, hb, hn⟩
      dsimp only at hn ⊢
      refine wpOp_step (i := 7) rfl (fun K hK => ?_)
      have HK : Shut _ := hK
      clear hK
      go_simp
      go_at_call 35
      refine (V.var22' n b1.1 (by omega) w_).mono ?_
      rintro e w2 ⟨rfl, hb2⟩
      go_wp2_with fail
      exact HK.out _ _ ⟨⟨celQ hSw.1 hb2, celQ hSw.2.1 hb2, celQ hSw.2.2.1 hb2, celQ hSw.2.2.2.1 hb2, bel_on (Nat.le_refl _) hSw.2.2.2.2 hb2⟩, t10, t11, _, t15, t18, t19, t22, t23, rfl, bel_on (Nat.le_refl _) hb hb2, ⟨(hn.on hb2).s, (hn.on hb2).b, fun _ => rfl, fun h => absurd h (by simp), fun h => absurd h (by simp), (hn.on hb2).m1, (hn.on hb2).m2, (hn.on hb2).m3⟩⟩
    · obtain ⟨⟨rfl, rfl, hc⟩, rfl⟩ := hi
      refine ⟨(2, c, 1), rfl, ?_, ?_, ?_⟩
      · clear hfin; revert hok hc; revert c; decide +kernel
      · clear hfin; revert hok hc; revert c; decide +kernel
      rintro a w_ hSw ⟨t10, t11, t14, t15, t18, t19, t22, t23, rfl, hb, hn⟩
      dsimp only at hn ⊢
      refine wpOp_step (i := 8) rfl (fun K hK => ?_)
      have HK : Shut _ := hK
      clear hK
      obtain rfl : t11 = .string (kB k) := hn.b rfl
      obtain rfl : t14 = .string (vB n) := hn.fn (by simpa using hc)
      have z1 : (kB k).size ≤ 100 := (by rw [s0]; decide)
      have z2 : (vB n).size ≤ 5 := s1
      go_simp
      rw [if_neg (by omega)]
      go_simp
      exact HK.out _ _ ⟨hSw, t10, _, _, _, t18, t19, t22, t23, rfl, hb, ⟨hn.s, hn.b, hn.fn, hn.fd, hn.fv, fun _ => rfl, fun h => absurd h (by simp), fun h => absurd h (by simp)⟩⟩
    · obtain ⟨rfl, rfl⟩ := hi
      refine ⟨(x, 2, m), rfl, ?_, ?_, ?_⟩
      · clear hfin; revert hok; revert x m; decide +kernel
      · clear hfin; revert hok; revert x m; decide +kernel
      rintro a w_ hSw ⟨t10, t11, t14, t15, t18, t19, t22, t23, rfl, hb, hn⟩
      dsimp only at hn ⊢
      refine wpOp_step (i := 11) rfl (fun K hK => ?_)
      have HK : Shut _ := hK
      clear hK
      go_simp
      go_at_call 35
      refine (V.var22' d b2.1 (by omega) w_).mono ?_
      rintro e w2 ⟨rfl, hb2⟩
      go_wp2_with fail
      exact HK.out _ _ ⟨⟨celQ hSw.1 hb2, celQ hSw.2.1 hb2, celQ hSw.2.2.1 hb2, celQ hSw.2.2.2.1 hb2, bel_on (Nat.le_refl _) hSw.2.2.2.2 hb2⟩, t10, t11, t14, t15, _, t19, t22, t23, rfl, bel_on (Nat.le_refl _) hb hb2, ⟨(hn.on hb2).s, (hn.on hb2).b, fun _ => (hn.on hb2).fn (by simp), fun _ => rfl, fun h => absurd h (by simp), (hn.on hb2).m1, (hn.on hb2).m2, (hn.on hb2).m3⟩⟩
    · obtain ⟨⟨rfl, hc⟩, rfl⟩ := hi
      refine ⟨(x, c, 2), rfl, ?_, ?_, ?_⟩
      · clear hfin; revert hok hc; revert x c; decide +kernel
      · clear hfin; revert hok hc; revert x c; decide +kernel
      rintro a w_ hSw ⟨t10, t11, t14, t15, t18, t19, t22, t23, rfl, hb, hn⟩
      dsimp only at hn ⊢
      refine wpOp_step (i := 12) rfl (fun K hK => ?_)
      have HK : Shut _ := hK
      clear hK
      obtain rfl : t15 = .string ((kB k ++ vB n)) := hn.m1 (by simp)
      obtain rfl : t18 = .string (vB d) := hn.fd (by simpa using hc)
      have z1 : ((kB k ++ vB n)).size ≤ 100 := (by rw [ByteArray.size_append]; omega)
      have z2 : (vB d).size ≤ 5 := s2
      go_simp
      rw [if_neg (by omega)]
      go_simp
      exact HK.out _ _ ⟨hSw, t10, t11, t14, _, _, _, t22, t23, rfl, hb, ⟨hn.s, hn.b, hn.fn, hn.fd, hn.fv, fun _ => hn.m1 (by simp), fun _ => rfl, fun h => absurd h (by simp)⟩⟩
    · obtain ⟨rfl, rfl⟩ := hi
      refine ⟨(x, 3, m), rfl, ?_, ?_, ?_⟩
      · clear hfin; revert hok; revert x m; decide +kernel
      · clear hfin; revert hok; revert x m; decide +kernel
      rintro a w_ hSw ⟨t10, t11, t14, t15, t18, t19, t22, t23, rfl, hb, hn⟩
      dsimp only at hn ⊢
      refine wpOp_step (i := 15) rfl (fun K hK => ?_)
      have HK : Shut _ := hK
      clear hK
      go_simp
      go_at_call 35
      refine (V.var22' v b3.1 (by omega) w_).mono ?_
      rintro e w2 ⟨rfl, hb2⟩
      go_wp2_with fail
      exact HK.out _ _ ⟨⟨celQ hSw.1 hb2, celQ hSw.2.1 hb2, celQ hSw.2.2.1 hb2, celQ hSw.2.2.2.1 hb2, bel_on (Nat.le_refl _) hSw.2.2.2.2 hb2⟩, t10, t11, t14, t15, t18, t19, _, t23, rfl, bel_on (Nat.le_refl _) hb hb2, ⟨(hn.on hb2).s, (hn.on hb2).b, fun _ => (hn.on hb2).fn (by simp), fun _ => (hn.on hb2).fd (by simp), fun _ => rfl, (hn.on hb2).m1, (hn.on hb2).m2, (hn.on hb2).m3⟩⟩
    · obtain ⟨⟨rfl, hc⟩, rfl⟩ := hi
      refine ⟨(x, c, 3), rfl, ?_, ?_, ?_⟩
      · clear hfin; revert hok hc; revert x c; decide +kernel
      · clear hfin; revert hok hc; revert x c; decide +kernel
      rintro a w_ hSw ⟨t10, t11, t14, t15, t18, t19, t22, t23, rfl, hb, hn⟩
      dsimp only at hn ⊢
      refine wpOp_step (i := 16) rfl (fun K hK => ?_)
      have HK : Shut _ := hK
      clear hK
      obtain rfl : t19 = .string ((kB k ++ vB n ++ vB d)) := hn.m2 (by simp)
      obtain rfl : t22 = .string (vB v) := hn.fv (by simpa using hc)
      have z1 : ((kB k ++ vB n ++ vB d)).size ≤ 100 := (by rw [ByteArray.size_append, ByteArray.size_append]; omega)
      have z2 : (vB v).size ≤ 5 := s3
      go_simp
      rw [if_neg (by omega)]
      go_simp
      exact HK.out _ _ ⟨hSw, t10, t11, t14, t15, t18, _, _, _, rfl, hb, ⟨hn.s, hn.b, hn.fn, hn.fd, hn.fv, fun _ => hn.m1 (by simp), fun _ => hn.m2 (by simp), fun _ => rfl⟩⟩
  · rintro ⟨x, c, m⟩ a w_ f2 hok hfin hf hSw ⟨t10, t11, t14, t15, t18, t19, t22, t23, rfl, hb, hn⟩
    dsimp only at hok hfin hf hn ⊢
    obtain rfl : m = 3 := by simpa using hfin
    obtain ⟨rfl, rfl⟩ : c = 3 ∧ x = 2 := by clear hf hn hfin; revert hok; revert x c; decide +kernel
    obtain ⟨f3, rfl⟩ : ∃ f3, f2 = f3 + 5 := ⟨f2 - 5, by simp at hf; omega⟩
    obtain rfl := hn.m3 (by simp)
    have HZ : Hid ((kB k ++ vB n ++ vB d ++ vB v).size ≤ 20000) := by show _ ≤ _; rw [ByteArray.size_append, ByteArray.size_append, ByteArray.size_append]; omega
    have HT : Hid (kB k ++ vB n ++ vB d ++ vB v = ordB k n d v) := rfl
    refine wpAnyH_ready (rs := [17]) (by kernel_rfl) (by simp) ?_
    refine AllReadyH.cons rfl (fun K hK => ?_) AllReadyH.nil
    go_simp
    go_at_call 30
    refine (Q.sealS (kB k ++ vB n ++ vB d ++ vB v) HZ.out _).mono ?_
    rintro e w2 ⟨rfl, hb2⟩
    go_wp2_with fail
    refine hK.out _ _ ⟨celQ hSw.1 hb2, celQ hSw.2.1 hb2, celQ hSw.2.2.1 hb2, celQ hSw.2.2.2.1 hb2, bel_on (Nat.le_refl _) hSw.2.2.2.2 hb2⟩ (fun hHeld2 => ?_)
    have HBF : Hid (Below w.heap.size w w2) := hHeld2.2.2.2.2
    clear hK K hb2 hn hSw hb
    rw [HT.out]
    obtain ⟨T, hT⟩ : ∃ T, ordB k n d v ++ Q.sigil (ordB k n d v) = T := ⟨_, rfl⟩
    have HTT : Hid (ordT k n d v = T) := hT
    rw [hT]
    clear hT HT HZ
    refine wpAnyH_take (i := 18) (v := ?_) rfl (by kernel_rfl) (by kernel_rfl) (by kernel_rfl) (fun _ _ _ h => h) (Or.inl ⟨by rfl, ?_⟩) (by assumption) ?_
    rotate_left
    · intro w_ hSw; (try obtain ⟨z0_, z1_, z2_, z3_, z4_⟩ := hSw); go_simp <;> with_reducible rfl
    try simp only [Act.put, List.setIfInBounds_toArray, List.set_cons_zero, List.set_cons_succ, List.getElem_toArray, List.getElem_cons_zero, List.getElem_cons_succ]
    refine wpAnyH_take (i := 19) (v := ?_) rfl (by kernel_rfl) (by kernel_rfl) (by kernel_rfl) (fun _ _ _ h => h) (Or.inl ⟨by rfl, ?_⟩) (by assumption) ?_
    rotate_left
    · intro w_ hSw; (try obtain ⟨z0_, z1_, z2_, z3_, z4_⟩ := hSw); go_simp <;> with_reducible rfl
    try simp only [Act.put, List.setIfInBounds_toArray, List.set_cons_zero, List.set_cons_succ, List.getElem_toArray, List.getElem_cons_zero, List.getElem_cons_succ]
    refine wpAnyH_ready (rs := [20]) (by kernel_rfl) (by simp) ?_
    refine AllReadyH.cons rfl (fun K hK => ?_) AllReadyH.nil
    go_simp
    refine hK.out _ _ hHeld2 (fun _ => ?_)
    clear hK K
    refine wpAnyH_ready (rs := [21]) (by kernel_rfl) (by simp) ?_
    refine AllReadyH.cons rfl (fun K hK => ?_) AllReadyH.nil
    go_simp
    refine hK.out _ _ hHeld2 (fun _ => ?_)
    clear hK K hHeld2
    refine wpAnyH_done (by kernel_rfl) ?_ _
    go_wp2
    go_ret2
    exact ⟨by rw [HTT.out]; rfl, HBF.out⟩
theorem textNo (k n d v : Int) (hR : ¬ OrdR k n d v) (w : World) : Calls Tryd.prog 16 #[ordV k n d v] w fun e w' => e = .returned (.tuple #[.string ⟨#[]⟩, .bool false]) ∧ Below w.heap.size w w' := by
  have HR : Hid (false = true ↔ OrdR k n d v) := (⟨fun h => (by cases h), fun h => absurd h hR⟩ : false = true ↔ OrdR k n d v)
  have HB0 : Hid (Below w.heap.size w (w.alloc (.cells #[.int .i64 k, .int .i64 n, .int .i64 d, .int .i64 v] 25))) := (Below.refl _ _).alloc (Nat.le_refl _) _
  have HK0 : Hid ((w.alloc (.cells #[.int .i64 k, .int .i64 n, .int .i64 d, .int .i64 v] 25)).heap[w.heap.size]? = some (.cells #[.int .i64 k, .int .i64 n, .int .i64 d, .int .i64 v] 25)) := heap_new w _
  have k0 := box4_cells HK0.out
  clear hR
  unfold ordV
  go_enter Tryd.func16, Tryd.ntmps16
  go_wp2_with fail
  refine (ordokS k n d v false HR.out _).mono ?_
  rintro e W1 ⟨rfl, hb1⟩
  have HB1 : Hid (Below w.heap.size w W1) := bel_on (Nat.le_refl _) HB0.out hb1
  clear hb1 HK0 HB0 k0
  go_wp2
  go_ret2
  exact ⟨rfl, HB1.out⟩
end Go.Proofs.YticlbaopnbddbaaDoor
