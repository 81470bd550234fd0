/-
  OrderText of the specification.
-/
import Derived.Test.YtfhhnelffldggaaGreatDoorUqAB
import Derived.Test.YtfhhnelffldggaaGreatDoorUqAD
import Derived.Test.YtfhhnelffldggaaGreatDoorUqAP
import Derived.Deep.CutBlock
import Derived.Deep.RegionHeld3
set_option maxRecDepth 100000
set_option maxHeartbeats 16000000
namespace Go.Proofs.YtfhhnelffldggaaGreatDoor
open Go.RowKit Go.PlainAid
set_option linter.unusedVariables false
set_option linter.unusedSimpArgs false
theorem mem_ifc {i k : Nat} {p : Prop} [Decidable p] : (i ∈ (if p then [k] else ([] : List Nat))) ↔ (p ∧ i = k) := by by_cases h : p <;> simp [h]
theorem alQ (w : World) (o : Obj) : Below w.heap.size w (w.alloc o) := (Below.refl _ _).alloc (Nat.le_refl _) _
theorem celQ {W W' : World} {p : Addr} {v : Value} (h : W.cell? p = some v) (hb : Below W.heap.size W W') : W'.cell? p = some v := (hb.cell (World.block_lt_of_cell? W p h)).trans h
def kB (k : Int) : ByteArray := ⟨#[UInt8.ofNat k.toNat]⟩
def vB (n : Int) : ByteArray := ⟨(Plain.vt n.toNat).toArray⟩
def ordB (k n d v : Int) : ByteArray := kB k ++ vB n ++ vB d ++ vB v
def ordT (k n d v : Int) : ByteArray := ordB k n d v ++ Q.sigil (ordB k n d v)
theorem vB_size {n : Int} (h : n ≤ 1000000000) : (vB n).size ≤ 5 := by
  show (Plain.vt n.toNat).toArray.size ≤ 5
  rw [List.size_toArray]
  exact V.vt_five (by omega)
theorem kB_size (k : Int) : (kB k).size = 1 := rfl
theorem kind_run (k : Int) (h1 : 1 ≤ k) (h6 : k ≤ 6) (g : Nat) (w : World) (h : w.heap[g]? = some (.cells #[.int .u8 k] 5)) : (convert 22 9 (.slice (some ⟨g, 0, none⟩) 1 1)).run Tryz.prog w = .ok (.string (kB k)) w := by
  have e := run_convert_bytes_back (P := Tryz.prog) w 22 9 5 ⟨g, 0, none⟩ 1 [UInt8.ofNat k.toNat] Tryz.underlying22 Tryz.underlying5 Tryz.underlying9 (fun j hj => by
    have : j = 0 := by simpa using hj
    subst this
    have e2 : ((UInt8.ofNat k.toNat).toNat : Int) = k := by rw [UInt8.toNat_ofNat']; omega
    simp [World.cell?, h, Addr.add, e2]
    omega)
  exact e
structure OT (k n d v : Int) (x : Fin 3) (c m : Fin 4) (t10 t11 t14 t15 t18 t19 t22 t23 : Value) (w : World) : Prop where
  s : x = 1 → ∃ g, t10 = .slice (some ⟨g, 0, none⟩) 1 1 ∧ w.heap[g]? = some (.cells #[.int .u8 k] 5)
  b : x = 2 → t11 = .string (kB k)
  fn : 0 < c → t14 = .string (vB n)
  fd : 1 < c → t18 = .string (vB d)
  fv : 2 < c → t22 = .string (vB v)
  m1 : 0 < m → t15 = .string (kB k ++ vB n)
  m2 : 1 < m → t19 = .string (kB k ++ vB n ++ vB d)
  m3 : 2 < m → t23 = .string (kB k ++ vB n ++ vB d ++ vB v)
theorem OT.on {k n d v : Int} {x : Fin 3} {c m : Fin 4} {t10 t11 t14 t15 t18 t19 t22 t23 : Value} {w w' : World} (h : OT k n d v x c m t10 t11 t14 t15 t18 t19 t22 t23 w) (hb : Below w.heap.size w w') : OT k n d v x c m t10 t11 t14 t15 t18 t19 t22 t23 w' :=
  ⟨fun e => by obtain ⟨g, e1, e2⟩ := h.s e; exact ⟨g, e1, row_on e2 hb⟩, h.b, h.fn, h.fd, h.fv, h.m1, h.m2, h.m3⟩
theorem textS (k n d v : Int) (hR : OrdR k n d v) (w : World) : Calls Tryz.prog 105 #[ordV k n d v] w fun e w' => e = .returned (.tuple #[.string (ordT k n d v), .bool true]) ∧ Below w.heap.size w w' := by
  obtain ⟨⟨hk1, hk6⟩, b1, b2, b3⟩ := hR.bd
  have HR : Hid (OrdR k n d v) := hR
  have s1 := vB_size (n := n) (by omega)
  have s2 := vB_size (n := d) (by omega)
  have s3 := vB_size (n := v) (by omega)
  have s0 := kB_size k
  have HB0 : Hid (Below w.heap.size w (w.alloc (oB k n d v))) := (Below.refl _ _).alloc (Nat.le_refl _) _
  have HK0 : Hid ((w.alloc (oB k n d v)).heap[w.heap.size]? = some (oB k n d v)) := heap_new w _
  have EV : Hid (ordV k n d v = .agg #[.int .i64 k, .int .i64 n, .int .i64 d, .int .i64 v]) := rfl
  have hk256 : k % 256 = k := by omega
  clear hR
  have k0 := box4_cells HK0.out
  unfold ordV
  go_enter Tryz.func105, Tryz.ntmps105
  go_wp2_with fail
  refine (ordokS k n d v true ⟨fun _ => HR.out, fun _ => rfl⟩ _).mono ?_
  rintro e W1 ⟨rfl, hb1⟩
  have HK1 := rq HK0 hb1
  have HB1 := bq HB0 hb1
  clear hb1 HK0 HB0 k0
  have ki := box4_cells HK1.out
  go_upto_region 3 with fail
  refine wp_region_held_drew (S := fun w' => w'.cell? ⟨w.heap.size, 0, none⟩ = some (.int .i64 k) ∧ w'.cell? ⟨w.heap.size, 1, none⟩ = some (.int .i64 n) ∧ w'.cell? ⟨w.heap.size, 2, none⟩ = some (.int .i64 d) ∧ w'.cell? ⟨w.heap.size, 3, none⟩ = some (.int .i64 v) ∧ Below w.heap.size w w') (by kernel_rfl) ⟨ki.1.1, ki.1.2.1, ki.1.2.2.1, ki.1.2.2.2, HB1.out.drew⟩ (fun hHeld => ?_)
  refine tkQ 0 ?_ rfl ?_ ?_
  rotate_left
  · intro w_ hSw; (try obtain ⟨z0_, z1_, z2_, z3_, z4_⟩ := hSw); go_simp <;> with_reducible rfl
  try simp only [Act.put, sQ]
  refine tkQ 1 ?_ rfl ?_ ?_
  rotate_left
  · intro w_ hSw; (try obtain ⟨z0_, z1_, z2_, z3_, z4_⟩ := hSw); go_simp <;> with_reducible rfl
  try simp only [Act.put, sQ]
  refine tkQ 2 ?_ rfl ?_ ?_
  rotate_left
  · intro w_ hSw; (try obtain ⟨z0_, z1_, z2_, z3_, z4_⟩ := hSw); go_simp <;> with_reducible rfl
  try simp only [Act.put, sQ]
  refine tkQ 5 ?_ rfl ?_ ?_
  rotate_left
  · intro w_ hSw; (try obtain ⟨z0_, z1_, z2_, z3_, z4_⟩ := hSw); go_simp <;> with_reducible rfl
  try simp only [Act.put, sQ]
  refine tkQ 6 ?_ rfl ?_ ?_
  rotate_left
  · intro w_ hSw; (try obtain ⟨z0_, z1_, z2_, z3_, z4_⟩ := hSw); go_simp <;> with_reducible rfl
  try simp only [Act.put, sQ]
  refine tkQ 9 ?_ rfl ?_ ?_
  rotate_left
  · intro w_ hSw; (try obtain ⟨z0_, z1_, z2_, z3_, z4_⟩ := hSw); go_simp <;> with_reducible rfl
  try simp only [Act.put, sQ]
  refine tkQ 10 ?_ rfl ?_ ?_
  rotate_left
  · intro w_ hSw; (try obtain ⟨z0_, z1_, z2_, z3_, z4_⟩ := hSw); go_simp <;> with_reducible rfl
  try simp only [Act.put, sQ]
  refine tkQ 13 ?_ rfl ?_ ?_
  rotate_left
  · intro w_ hSw; (try obtain ⟨z0_, z1_, z2_, z3_, z4_⟩ := hSw); go_simp <;> with_reducible rfl
  try simp only [Act.put, sQ]
  refine tkQ 14 ?_ rfl ?_ ?_
  rotate_left
  · intro w_ hSw; (try obtain ⟨z0_, z1_, z2_, z3_, z4_⟩ := hSw); go_simp <;> with_reducible rfl
  try simp only [Act.put, sQ]
  have hkw : IntKind.u8.wrap k = k := by first | (rw [IntKind.wrap_u8]; omega) | (simp [IntKind.wrap, IntKind.bits, IntKind.signed]; omega)
  rw [hkw]
  refine any_states (σ := Fin 3 × Fin 4 × Fin 4) (fun s => #[true, true, true, decide (0 < s.1), decide (1 < s.1), true, true, decide (0 < s.2.1), decide (0 < s.2.2), true, true, decide (1 < s.2.1), decide (1 < s.2.2), true, true, decide (2 < s.2.1), decide (2 < s.2.2), false, false, false, false, false]) (fun s => (if s.1 = 0 then [3] else []) ++ (if s.1 = 1 then [4] else []) ++ (if s.2.1 = 0 then [7] else []) ++ (if s.2.2 = 0 ∧ s.1 = 2 ∧ 0 < s.2.1 then [8] else []) ++ (if s.2.1 = 1 then [11] else []) ++ (if s.2.2 = 1 ∧ 1 < s.2.1 then [12] else []) ++ (if s.2.1 = 2 then [15] else []) ++ (if s.2.2 = 2 ∧ 2 < s.2.1 then [16] else [])) (fun s => 5 + (2 - s.1.val) + (3 - s.2.1.val) + (3 - s.2.2.val)) (fun s => decide (s.2.2 ≤ s.2.1) && (decide (s.2.2 = 0) || decide (s.1 = 2))) (fun s => decide (s.2.2 = 3)) (fun s a w_ => ∃ t10 t11 t14 t15 t18 t19 t22 t23 : Value, a = ⟨#[.agg #[.int .i64 k, .int .i64 n, .int .i64 d, .int .i64 v], .pointer (some ⟨w.heap.size, 0, none⟩), .string ⟨#[]⟩, .bool false, .agg #[.int .i64 k, .int .i64 n, .int .i64 d, .int .i64 v], .bool true, .bool false, .pointer (some ⟨w.heap.size, 0, none⟩), .int .i64 k, .int .u8 k, t10, t11, .pointer (some ⟨w.heap.size, 1, none⟩), .int .i64 n, t14, t15, .pointer (some ⟨w.heap.size, 2, none⟩), .int .i64 d, t18, t19, .pointer (some ⟨w.heap.size, 3, none⟩), .int .i64 v, t22, t23, undef, undef, undef], []⟩ ∧ Below W1.heap.size W1 w_ ∧ OT k n d v s.1 s.2.1 s.2.2 t10 t11 t14 t15 t18 t19 t22 t23 w_) ?_ ?_ ?_ 13 (0, 0, 0) _ _ _ (by decide) (by decide) (by decide) hHeld ⟨undef, undef, undef, undef, undef, undef, undef, undef, rfl, (Below.refl _ _).drew, ⟨fun h => absurd h (by simp), fun h => absurd h (by simp), fun h => absurd h (by simp), fun h => absurd h (by simp), fun h => absurd h (by simp), fun h => absurd h (by simp), fun h => absurd h (by simp), fun h => absurd h (by simp)⟩⟩
  · rintro ⟨x, c, m⟩
    dsimp only
    revert x c m
    decide +kernel
  · rintro ⟨x, c, m⟩ i hok hfin hi
    dsimp only at hok hfin hi
    simp only [List.mem_append, mem_ifc] at hi
    rcases hi with ((((((hi | hi) | hi) | hi) | hi) | hi) | hi) | hi
    · obtain ⟨rfl, rfl⟩ := hi
      refine ⟨(1, c, m), rfl, ?_, ?_, ?_⟩
      · clear hfin; revert hok; revert c m; decide +kernel
      · clear hfin; revert hok; revert c m; decide +kernel
      rintro a w_ hSw ⟨t10, t11, t14, t15, t18, t19, t22, t23, rfl, hb, hn⟩
      dsimp only at hn ⊢
      refine wpOp_step (i := 3) rfl (fun K hK => ?_)
      have HK : Shut _ := hK
      clear hK
      go_simp
      exact HK.out _ _ ⟨⟨celQ hSw.1 (alQ w_ _), celQ hSw.2.1 (alQ w_ _), celQ hSw.2.2.1 (alQ w_ _), celQ hSw.2.2.2.1 (alQ w_ _), bel_on (Nat.le_refl _) hSw.2.2.2.2 (alQ w_ _)⟩, _, t11, t14, t15, t18, t19, t22, t23, rfl, bel_on (Nat.le_refl _) hb (alQ w_ _), ⟨fun _ => ⟨w_.heap.size, rfl, heap_new w_ _⟩, fun h => absurd h (by simp), hn.fn, hn.fd, hn.fv, hn.m1, hn.m2, hn.m3⟩⟩
    · obtain ⟨rfl, rfl⟩ := hi
      refine ⟨(2, c, m), rfl, ?_, ?_, ?_⟩
      · clear hfin; revert hok; revert c m; decide +kernel
      · clear hfin; revert hok; revert c m; decide +kernel
      rintro a w_ hSw ⟨t10, t11, t14, t15, t18, t19, t22, t23, rfl, hb, hn⟩
      dsimp only at hn ⊢
      refine wpOp_step (i := 4) rfl (fun K hK => ?_)
      have HK : Shut _ := hK
      clear hK
      obtain ⟨g, rfl, hrow⟩ := hn.s rfl
      have hcv := kind_run k hk1 hk6 g w_ hrow
      go_simp
      exact HK.out _ _ ⟨hSw, _, _, t14, t15, t18, t19, t22, t23, rfl, hb, ⟨fun h => absurd h (by simp), fun _ => rfl, hn.fn, hn.fd, hn.fv, hn.m1, hn.m2, hn.m3⟩⟩
    · obtain ⟨rfl, rfl⟩ := hi
      refine ⟨(x, 1, m), rfl, ?_, ?_, ?_⟩
      · clear hfin; revert hok; revert x m; decide +kernel
      · clear hfin; revert hok; revert x m; decide +kernel
      rintro a w_ hSw ⟨t10, t11, t14, t15, t18, t19, t22, t23, rfl, hb, hn⟩
      dsimp only at hn ⊢
      refine wpOp_step (i := 7) rfl (fun K hK => ?_)
      have HK : Shut _ := hK
      clear hK
      go_simp
      go_at_call 160
      refine (V.var22' n b1.1 (by omega) w_).mono ?_
      rintro e w2 ⟨rfl, hb2⟩
      go_wp2_with fail
      exact HK.out _ _ ⟨⟨celQ hSw.1 hb2, celQ hSw.2.1 hb2, celQ hSw.2.2.1 hb2, celQ hSw.2.2.2.1 hb2, bel_on (Nat.le_refl _) hSw.2.2.2.2 hb2⟩, t10, t11, _, t15, t18, t19, t22, t23, rfl, bel_on (Nat.le_refl _) hb hb2, ⟨(hn.on hb2).s, (hn.on hb2).b, fun _ => rfl, fun h => absurd h (by simp), fun h => absurd h (by simp), (hn.on hb2).m1, (hn.on hb2).m2, (hn.on hb2).m3⟩⟩
    · obtain ⟨⟨rfl, rfl, hc⟩, rfl⟩ := hi
      refine ⟨(2, c, 1), rfl, ?_, ?_, ?_⟩
      · clear hfin; revert hok hc; revert c; decide +kernel
      · clear hfin; revert hok hc; revert c; decide +kernel
      rintro a w_ hSw ⟨t10, t11, t14, t15, t18, t19, t22, t23, rfl, hb, hn⟩
      dsimp only at hn ⊢
      refine wpOp_step (i := 8) rfl (fun K hK => ?_)
      have HK : Shut _ := hK
      clear hK
      obtain rfl : t11 = .string (kB k) := hn.b rfl
      obtain rfl : t14 = .string (vB n) := hn.fn (by simpa using hc)
      have z1 : (kB k).size ≤ 100 := (by rw [s0]; decide)
      have z2 : (vB n).size ≤ 5 := s1
      go_simp
      rw [if_neg (by omega)]
      go_simp
      exact HK.out _ _ ⟨hSw, t10, _, _, _, t18, t19, t22, t23, rfl, hb, ⟨hn.s, hn.b, hn.fn, hn.fd, hn.fv, fun _ => rfl, fun h => absurd h (by simp), fun h => absurd h (by simp)⟩⟩
    · obtain ⟨rfl, rfl⟩ := hi
      refine ⟨(x, 2, m), rfl, ?_, ?_, ?_⟩
      · clear hfin; revert hok; revert x m; decide +kernel
      · clear hfin; revert hok; revert x m; decide +kernel
      rintro a w_ hSw ⟨t10, t11, t14, t15, t18, t19, t22, t23, rfl, hb, hn⟩
      dsimp only at hn ⊢
      refine wpOp_step (i := 11) rfl (fun K hK => ?_)
      have HK : Shut _ := hK
      clear hK
      go_simp
      go_at_call 160
      refine (V.var22' d b2.1 (by omega) w_).mono ?_
      rintro e w2 ⟨rfl, hb2⟩
      go_wp2_with fail
      exact HK.out _ _ ⟨⟨celQ hSw.1 hb2, celQ hSw.2.1 hb2, celQ hSw.2.2.1 hb2, celQ hSw.2.2.2.1 hb2, bel_on (Nat.le_refl _) hSw.2.2.2.2 hb2⟩, t10, t11, t14, t15, _, t19, t22, t23, rfl, bel_on (Nat.le_refl _) hb hb2, ⟨(hn.on hb2).s, (hn.on hb2).b, fun _ => (hn.on hb2).fn (by simp), fun _ => rfl, fun h => absurd h (by simp), (hn.on hb2).m1, (hn.on hb2).m2, (hn.on hb2).m3⟩⟩
    · obtain ⟨⟨rfl, hc⟩, rfl⟩ := hi
      refine ⟨(x, c, 2), rfl, ?_, ?_, ?_⟩
      · clear hfin; revert hok hc; revert x c; decide +kernel
      · clear hfin; revert hok hc; revert x c; decide +kernel
      rintro a w_ hSw ⟨t10, t11, t14, t15, t18, t19, t22, t23, rfl, hb, hn⟩
      dsimp only at hn ⊢
      refine wpOp_step (i := 12) rfl (fun K hK => ?_)
      have HK : Shut _ := hK
      clear hK
      obtain rfl : t15 = .string ((kB k ++ vB n)) := hn.m1 (by simp)
      obtain rfl : t18 = .string (vB d) := hn.fd (by simpa using hc)
      have z1 : ((kB k ++ vB n)).size ≤ 100 := (by rw [ByteArray.size_append]; omega)
      have z2 : (vB d).size ≤ 5 := s2
      go_simp
      rw [if_neg (by omega)]
      go_simp
      exact HK.out _ _ ⟨hSw, t10, t11, t14, _, _, _, t22, t23, rfl, hb, ⟨hn.s, hn.b, hn.fn, hn.fd, hn.fv, fun _ => hn.m1 (by simp), fun _ => rfl, fun h => absurd h (by simp)⟩⟩
    · obtain ⟨rfl, rfl⟩ := hi
      refine ⟨(x, 3, m), rfl, ?_, ?_, ?_⟩
      · clear hfin; revert hok; revert x m; decide +kernel
      · clear hfin; revert hok; revert x m; decide +kernel
      rintro a w_ hSw ⟨t10, t11, t14, t15, t18, t19, t22, t23, rfl, hb, hn⟩
      dsimp only at hn ⊢
      refine wpOp_step (i := 15) rfl (fun K hK => ?_)
      have HK : Shut _ := hK
      clear hK
      go_simp
      go_at_call 160
      refine (V.var22' v b3.1 (by omega) w_).mono ?_
      rintro e w2 ⟨rfl, hb2⟩
      go_wp2_with fail
      exact HK.out _ _ ⟨⟨celQ hSw.1 hb2, celQ hSw.2.1 hb2, celQ hSw.2.2.1 hb2, celQ hSw.2.2.2.1 hb2, bel_on (Nat.le_refl _) hSw.2.2.2.2 hb2⟩, t10, t11, t14, t15, t18, t19, _, t23, rfl, bel_on (Nat.le_refl _) hb hb2, ⟨(hn.on hb2).s, (hn.on hb2).b, fun _ => (hn.on hb2).fn (by simp), fun _ => (hn.on hb2).fd (by simp), fun _ => rfl, (hn.on hb2).m1, (hn.on hb2).m2, (hn.on hb2).m3⟩⟩
    · obtain ⟨⟨rfl, hc⟩, rfl⟩ := hi
      refine ⟨(x, c, 3), rfl, ?_, ?_, ?_⟩
      · clear hfin; revert hok hc; revert x c; decide +kernel
      · clear hfin; revert hok hc; revert x c; decide +kernel
      rintro a w_ hSw ⟨t10, t11, t14, t15, t18, t19, t22, t23, rfl, hb, hn⟩
      dsimp only at hn ⊢
      refine wpOp_step (i := 16) rfl (fun K hK => ?_)
      have HK : Shut _ := hK
      clear hK
      obtain rfl : t19 = .string ((kB k ++ vB n ++ vB d)) := hn.m2 (by simp)
      obtain rfl : t22 = .string (vB v) := hn.fv (by simpa using hc)
      have z1 : ((kB k ++ vB n ++ vB d)).size ≤ 100 := (by rw [ByteArray.size_append, ByteArray.size_append]; omega)
      have z2 : (vB v).size ≤ 5 := s3
      go_simp
      rw [if_neg (by omega)]
      go_simp
      exact HK.out _ _ ⟨hSw, t10, t11, t14, t15, t18, _, _, _, rfl, hb, ⟨hn.s, hn.b, hn.fn, hn.fd, hn.fv, fun _ => hn.m1 (by simp), fun _ => hn.m2 (by simp), fun _ => rfl⟩⟩
  · rintro ⟨x, c, m⟩ a w_ f2 hok hfin hf hSw ⟨t10, t11, t14, t15, t18, t19, t22, t23, rfl, hb, hn⟩
    dsimp only at hok hfin hf hn ⊢
    obtain rfl : m = 3 := by simpa using hfin
    obtain ⟨rfl, rfl⟩ : c = 3 ∧ x = 2 := by clear hf hn hfin; revert hok; revert x c; decide +kernel
    obtain ⟨f3, rfl⟩ : ∃ f3, f2 = f3 + 5 := ⟨f2 - 5, by simp at hf; omega⟩
    obtain rfl := hn.m3 (by simp)
    have HZ : Hid ((kB k ++ vB n ++ vB d ++ vB v).size ≤ 20000) := by show _ ≤ _; rw [ByteArray.size_append, ByteArray.size_append, ByteArray.size_append]; omega
    have HT : Hid (kB k ++ vB n ++ vB d ++ vB v = ordB k n d v) := rfl
    refine wpAnyH_ready (rs := [17]) (by kernel_rfl) (by simp) ?_
    refine AllReadyH.cons rfl (fun K hK => ?_) AllReadyH.nil
    go_simp
    go_at_call 159
    refine (Q.sealS (kB k ++ vB n ++ vB d ++ vB v) HZ.out _).mono ?_
    rintro e w2 ⟨rfl, hb2⟩
    go_wp2_with fail
    refine hK.out _ _ ⟨celQ hSw.1 hb2, celQ hSw.2.1 hb2, celQ hSw.2.2.1 hb2, celQ hSw.2.2.2.1 hb2, bel_on (Nat.le_refl _) hSw.2.2.2.2 hb2⟩ (fun hHeld2 => ?_)
    have HBF : Hid (Below w.heap.size w w2) := hHeld2.2.2.2.2
    clear hK K hb2 hn hSw hb
    rw [HT.out]
    obtain ⟨T, hT⟩ : ∃ T, ordB k n d v ++ Q.sigil (ordB k n d v) = T := ⟨_, rfl⟩
    have HTT : Hid (ordT k n d v = T) := hT
    rw [hT]
    clear hT HT HZ
    refine tkQ 18 ?_ rfl ?_ ?_
    rotate_left
    · intro w_ hSw; (try obtain ⟨z0_, z1_, z2_, z3_, z4_⟩ := hSw); go_simp <;> with_reducible rfl
    try simp only [Act.put, sQ]
    refine tkQ 19 ?_ rfl ?_ ?_
    rotate_left
    · intro w_ hSw; (try obtain ⟨z0_, z1_, z2_, z3_, z4_⟩ := hSw); go_simp <;> with_reducible rfl
    try simp only [Act.put, sQ]
    refine wpAnyH_ready (rs := [20]) (by kernel_rfl) (by simp) ?_
    refine AllReadyH.cons rfl (fun K hK => ?_) AllReadyH.nil
    go_simp
    refine hK.out _ _ hHeld2 (fun _ => ?_)
    clear hK K
    refine wpAnyH_ready (rs := [21]) (by kernel_rfl) (by simp) ?_
    refine AllReadyH.cons rfl (fun K hK => ?_) AllReadyH.nil
    go_simp
    refine hK.out _ _ hHeld2 (fun _ => ?_)
    clear hK K hHeld2
    refine wpAnyH_done (by kernel_rfl) ?_ _
    go_wp2
    go_ret2
    exact ⟨by rw [HTT.out]; rfl, HBF.out⟩
theorem textNo (k n d v : Int) (hR : ¬ OrdR k n d v) (w : World) : Calls Tryz.prog 105 #[ordV k n d v] w fun e w' => e = .returned (.tuple #[.string ⟨#[]⟩, .bool false]) ∧ Below w.heap.size w w' := by
  have HR : Hid (false = true ↔ OrdR k n d v) := (⟨fun h => (by cases h), fun h => absurd h hR⟩ : false = true ↔ OrdR k n d v)
  have HB0 : Hid (Below w.heap.size w (w.alloc (oB k n d v))) := (Below.refl _ _).alloc (Nat.le_refl _) _
  have HK0 : Hid ((w.alloc (oB k n d v)).heap[w.heap.size]? = some (oB k n d v)) := heap_new w _
  have k0 := box4_cells HK0.out
  clear hR
  unfold ordV
  go_enter Tryz.func105, Tryz.ntmps105
  go_wp2_with fail
  refine (ordokS k n d v false HR.out _).mono ?_
  rintro e W1 ⟨rfl, hb1⟩
  have HB1 := bq HB0 hb1
  clear hb1 HK0 HB0 k0
  go_wp2
  go_ret2
  exact ⟨rfl, HB1.out⟩
end Go.Proofs.YtfhhnelffldggaaGreatDoor
namespace Go.Proofs.YtfhhnelffldggaaGreatDoor
open Go.RowKit Go.PlainAid
set_option linter.unusedVariables false
theorem set_row5 {w : World} {k : Nat} {T : TypeId} {a : Array Value} (h : w.heap[k]? = some (.cells a T)) (i : Nat) (x : Value) : (w.setCell ⟨k, i, none⟩ x).heap[k]? = some (.cells (a.setIfInBounds i x) T) := heap_setCell_same w k i _ _ x h
theorem row3_cells {w : World} {k : Nat} {t : TypeId} {x0 x1 x2 : Value} (h : w.heap[k]? = some (.cells #[x0, x1, x2] t)) :
    (w.cell? ⟨k, 0, none⟩ = some x0 ∧ w.cell? ⟨k, 1, none⟩ = some x1 ∧ w.cell? ⟨k, 2, none⟩ = some x2) ∧ w.frozen? ⟨k, 0, none⟩ = false ∧ w.frozen? ⟨k, 1, none⟩ = false ∧ w.frozen? ⟨k, 2, none⟩ = false := by
  refine ⟨⟨?_, ?_, ?_⟩, ?_, ?_, ?_⟩ <;> simp [World.cell?, World.frozen?, h]
theorem grown_setc {w W : World} {g i : Nat} (h : w.grownBy W (some g)) (u : Value) : w.grownBy (W.setCell ⟨g, i, none⟩ u) (some g) := by
  have hs : (W.setCell ⟨g, i, none⟩ u).heap.size = W.heap.size := by simp
  exact ⟨h.os, h.tape, h.output, by rw [hs]; exact h.size, fun m hm hne => (Below.heap_setCell _ _ _ _ (show m ≠ g from fun e => hne (by rw [e]))).trans (h.block m hm hne)⟩
theorem set_far {w : World} {k g i : Nat} {o : Obj} {x : Value} (h : w.heap[g]? = some o) (hne : g ≠ k) : (w.setCell ⟨k, i, none⟩ x).heap[g]? = some o := (Below.heap_setCell _ _ _ _ hne).trans h
def CurX (w : World) (C : Nat) (t : ByteArray) (a : Nat) (b : Bool) : Prop := w.heap[C]? = some (.cells #[.string t, .int .i64 (a : Int), .bool b] 143)
def StepV (t : ByteArray) (a : Nat) (b : Bool) (n : Int) (a' : Nat) (b' : Bool) : Prop :=
  (b = false ∧ V.rv t (a : Int) = some (n, a') ∧ b' = false) ∨ ((b = true ∨ V.rv t (a : Int) = none) ∧ n = 0 ∧ a' = a ∧ b' = true)
theorem StepV.num {t : ByteArray} {a : Nat} {b : Bool} {n : Int} {a' : Nat} {b' : Bool} (h : StepV t a b n a' b') (ha : a ≤ t.size) : 0 ≤ n ∧ n ≤ 1000000000 ∧ a' ≤ t.size := by
  rcases h with ⟨_, h, _⟩ | ⟨_, rfl, rfl, _⟩
  · exact V.rv_some h
  · exact ⟨by omega, by omega, ha⟩
theorem cur_set {w : World} {C : Nat} {t : ByteArray} {a : Nat} {b : Bool} (h : CurX w C t a b) (a' : Nat) : CurX (w.setCell ⟨C, 1, none⟩ (.int .i64 (a' : Int))) C t a' b := by
  unfold CurX at h ⊢
  exact set_row5 h 1 _
theorem cur_bad {w : World} {C : Nat} {t : ByteArray} {a : Nat} {b : Bool} (h : CurX w C t a b) : CurX (w.setCell ⟨C, 2, none⟩ (.bool true)) C t a true := by
  unfold CurX at h ⊢
  exact set_row5 h 2 _
theorem grown_bel {w W W' : World} {C : Nat} (hg : w.grownBy W (some C)) (hb : Below W.heap.size W W') : w.grownBy W' (some C) :=
  ⟨hb.os.trans hg.os, hb.tape.trans hg.tape, hb.output.trans hg.output, Nat.le_trans hg.size hb.size, fun k hk hne => (hb.block k (Nat.lt_of_lt_of_le hk hg.size)).trans (hg.block k hk hne)⟩
theorem curS3 {w W W' : World} {C : Nat} {x y z : Value} (hb : Below W.heap.size W W') (h : W.cell? ⟨C, 0, none⟩ = some x ∧ W.cell? ⟨C, 1, none⟩ = some y ∧ W.cell? ⟨C, 2, none⟩ = some z ∧ Below w.heap.size w W) : W'.cell? ⟨C, 0, none⟩ = some x ∧ W'.cell? ⟨C, 1, none⟩ = some y ∧ W'.cell? ⟨C, 2, none⟩ = some z ∧ Below w.heap.size w W' := by
  obtain ⟨h0, h1, h2, hB⟩ := h
  have hl := World.block_lt_of_cell? W ⟨C, 0, none⟩ h0
  exact ⟨(hb.cell (p := ⟨C, 0, none⟩) hl).trans h0, (hb.cell (p := ⟨C, 1, none⟩) hl).trans h1, (hb.cell (p := ⟨C, 2, none⟩) hl).trans h2, bel_on (Nat.le_refl _) hB hb⟩
theorem varC (C : Nat) (t : ByteArray) (a : Nat) (b : Bool) (ht : t.size ≤ 1048576) (ha : a ≤ t.size) (w : World) (hC : CurX w C t a b) :
    Calls Tryz.prog 104 #[.pointer (some ⟨C, 0, none⟩)] w fun e w' => ∃ (n : Int) (a' : Nat) (b' : Bool), e = .returned (.int .i64 n) ∧ StepV t a b n a' b' ∧ CurX w' C t a' b' ∧ w.grownBy w' (some C) := by
  have HC := hq hC
  have k0 := row3_cells hC
  have HS : Hid (w.cell? ⟨C, 0, none⟩ = some (.string t) ∧ w.cell? ⟨C, 1, none⟩ = some (.int .i64 (a : Int)) ∧ w.cell? ⟨C, 2, none⟩ = some (.bool b) ∧ Below w.heap.size w w) := ⟨k0.1.1, k0.1.2.1, k0.1.2.2, Below.refl _ _⟩
  have K1 : Hid (∀ w, Calls Tryz.prog 158 #[.string t, .int .i64 (a : Int)] w fun e w' => e = .returned (V.enc3 (V.rv t (a : Int))) ∧ Below w.heap.size w w') := V.rv11 t a ht
  clear hC k0
  rcases hR : V.rv t (a : Int) with _ | ⟨M, c⟩
  · have HE : Hid (StepV t a b 0 a true) := .inr ⟨.inr hR, rfl, rfl, rfl⟩
    rw [hR] at K1
    clear hR
    cases b
    · skip
      go_enter Tryz.func104, Tryz.ntmps104
      go_wp2
      go_region_held3 (fun w' => w'.cell? ⟨C, 0, none⟩ = some (.string t) ∧ w'.cell? ⟨C, 1, none⟩ = some (.int .i64 (a : Int)) ∧ w'.cell? ⟨C, 2, none⟩ = some (.bool false) ∧ Below w.heap.size w w') (first | (refine curS3 (by assumption) ?_; assumption) | (exact ⟨HS.out.1, HS.out.2.1, HS.out.2.2.1, HS.out.2.2.2.drew⟩)) (first | (go_at_call 158; refine (K1.out _).mono ?_; rintro e w1 ⟨rfl, hb1⟩; simp only [V.enc3]))
      rename_i HH
      have HW : Hid (Below w.heap.size w w1) := HH.2.2.2
      have HC1 : Hid (CurX w1 C t a false) := row_on HC.out HW.out
      have k1 := row3_cells HC1.out
      clear HH hb1 HS
      go_wp2
      go_ret
      exact ⟨0, a, true, rfl, HE.out, cur_bad HC1.out, grown_setc (grown_bel (World.grownBy.refl _ _) HW.out) _⟩
    · skip
      go_enter Tryz.func104, Tryz.ntmps104
      go_wp2
      go_region_held3 (fun w' => w'.cell? ⟨C, 0, none⟩ = some (.string t) ∧ w'.cell? ⟨C, 1, none⟩ = some (.int .i64 (a : Int)) ∧ w'.cell? ⟨C, 2, none⟩ = some (.bool true) ∧ Below w.heap.size w w') (first | (refine curS3 (by assumption) ?_; assumption) | (exact ⟨HS.out.1, HS.out.2.1, HS.out.2.2.1, HS.out.2.2.2.drew⟩)) (first | (go_at_call 158; refine (K1.out _).mono ?_; rintro e w1 ⟨rfl, hb1⟩; simp only [V.enc3]))
      rename_i HH
      have HW : Hid (Below w.heap.size w w1) := HH.2.2.2
      have HC1 : Hid (CurX w1 C t a true) := row_on HC.out HW.out
      have k1 := row3_cells HC1.out
      clear HH hb1 HS
      go_wp2
      go_ret
      exact ⟨0, a, true, rfl, HE.out, cur_bad HC1.out, grown_setc (grown_bel (World.grownBy.refl _ _) HW.out) _⟩
  · have HE : Hid (b = false → StepV t a b M c false) := fun h => .inl ⟨h, hR, rfl⟩
    have HEB : Hid (b = true → StepV t a b 0 a true) := fun h => .inr ⟨.inl h, rfl, rfl, rfl⟩
    rw [hR] at K1
    clear hR
    cases b
    · skip
      go_enter Tryz.func104, Tryz.ntmps104
      go_wp2
      go_region_held3 (fun w' => w'.cell? ⟨C, 0, none⟩ = some (.string t) ∧ w'.cell? ⟨C, 1, none⟩ = some (.int .i64 (a : Int)) ∧ w'.cell? ⟨C, 2, none⟩ = some (.bool false) ∧ Below w.heap.size w w') (first | (refine curS3 (by assumption) ?_; assumption) | (exact ⟨HS.out.1, HS.out.2.1, HS.out.2.2.1, HS.out.2.2.2.drew⟩)) (first | (go_at_call 158; refine (K1.out _).mono ?_; rintro e w1 ⟨rfl, hb1⟩; simp only [V.enc3]))
      rename_i HH
      have HW : Hid (Below w.heap.size w w1) := HH.2.2.2
      have HC1 : Hid (CurX w1 C t a false) := row_on HC.out HW.out
      have k1 := row3_cells HC1.out
      clear HH hb1 HS
      go_wp2
      go_ret
      exact ⟨M, c, false, rfl, HE.out (by first | rfl | trivial), cur_set HC1.out c, grown_setc (grown_bel (World.grownBy.refl _ _) HW.out) _⟩
    · skip
      go_enter Tryz.func104, Tryz.ntmps104
      go_wp2
      go_region_held3 (fun w' => w'.cell? ⟨C, 0, none⟩ = some (.string t) ∧ w'.cell? ⟨C, 1, none⟩ = some (.int .i64 (a : Int)) ∧ w'.cell? ⟨C, 2, none⟩ = some (.bool true) ∧ Below w.heap.size w w') (first | (refine curS3 (by assumption) ?_; assumption) | (exact ⟨HS.out.1, HS.out.2.1, HS.out.2.2.1, HS.out.2.2.2.drew⟩)) (first | (go_at_call 158; refine (K1.out _).mono ?_; rintro e w1 ⟨rfl, hb1⟩; simp only [V.enc3]))
      rename_i HH
      have HW : Hid (Below w.heap.size w w1) := HH.2.2.2
      have HC1 : Hid (CurX w1 C t a true) := row_on HC.out HW.out
      have k1 := row3_cells HC1.out
      clear HH hb1 HS
      go_wp2
      go_ret
      exact ⟨0, a, true, rfl, HEB.out (by first | rfl | trivial), cur_bad HC1.out, grown_setc (grown_bel (World.grownBy.refl _ _) HW.out) _⟩
theorem vB_list (n : Int) : (vB n).data.toList = Plain.vt n.toNat := by simp [vB]
theorem kB_list (k : Int) : (kB k).data.toList = [UInt8.ofNat k.toNat] := rfl
theorem ordB_list (k n d v : Int) : (ordB k n d v).data.toList = UInt8.ofNat k.toNat :: (Plain.vt n.toNat ++ (Plain.vt d.toNat ++ Plain.vt v.toNat)) := by
  unfold ordB
  simp only [ByteArray.data_append, Array.toList_append, vB_list, kB_list]
  simp
theorem ordB_size (k n d v : Int) : (ordB k n d v).size = 1 + (Plain.vt n.toNat).length + (Plain.vt d.toNat).length + (Plain.vt v.toNat).length := by
  rw [V.size_list, ordB_list]
  simp
  omega
theorem rd_num {k n d v : Int} (hR : OrdR k n d v) : V.rv (ordB k n d v) ((1 : Nat) : Int) = some (n, 1 + (Plain.vt n.toNat).length) := by
  obtain ⟨_, h1, _, _⟩ := hR.bd
  have h := V.rv_at (s := ordB k n d v) (a := 1) (n := n.toNat) (post := Plain.vt d.toNat ++ Plain.vt v.toNat) (by omega) (by rw [ordB_list]; rfl) (by rw [ordB_size]; omega)
  rw [h, Int.toNat_of_nonneg h1.1]
theorem rd_den {k n d v : Int} (hR : OrdR k n d v) : V.rv (ordB k n d v) ((1 + (Plain.vt n.toNat).length : Nat) : Int) = some (d, 1 + (Plain.vt n.toNat).length + (Plain.vt d.toNat).length) := by
  obtain ⟨_, _, h2, _⟩ := hR.bd
  have h := V.rv_at (s := ordB k n d v) (a := 1 + (Plain.vt n.toNat).length) (n := d.toNat) (post := Plain.vt v.toNat) (by omega) (by
    rw [ordB_list, Nat.add_comm 1, List.drop_succ_cons, List.drop_left]) (by rw [ordB_size]; omega)
  rw [h, Int.toNat_of_nonneg h2.1]
theorem rd_vol {k n d v : Int} (hR : OrdR k n d v) : V.rv (ordB k n d v) ((1 + (Plain.vt n.toNat).length + (Plain.vt d.toNat).length : Nat) : Int) = some (v, 1 + (Plain.vt n.toNat).length + (Plain.vt d.toNat).length + (Plain.vt v.toNat).length) := by
  obtain ⟨_, _, _, h3⟩ := hR.bd
  have h := V.rv_at (s := ordB k n d v) (a := 1 + (Plain.vt n.toNat).length + (Plain.vt d.toNat).length) (n := v.toNat) (post := []) (by omega) (by
    rw [ordB_list, show 1 + (Plain.vt n.toNat).length + (Plain.vt d.toNat).length = ((Plain.vt n.toNat ++ Plain.vt d.toNat).length) + 1 by simp; omega, List.drop_succ_cons, ← List.append_assoc, List.drop_left]; simp) (by rw [ordB_size]; omega)
  rw [h, Int.toNat_of_nonneg h3.1]
theorem rd_kind {k n d v : Int} (hR : OrdR k n d v) : ((ordB k n d v).data.toList.head?).map (fun c => (c.toNat : Int)) = some k := by
  obtain ⟨h0, _, _, _⟩ := hR.bd
  rw [ordB_list]
  simp
  omega
theorem ordB_inj {k n d v k' n' d' v' : Int} (hR : OrdR k n d v) (hR' : OrdR k' n' d' v') (e : ordB k n d v = ordB k' n' d' v') : k = k' ∧ n = n' ∧ d = d' ∧ v = v' := by
  have a1 := rd_num hR
  have b1 := rd_num hR'
  rw [e, b1] at a1
  obtain ⟨e1, _⟩ := Prod.mk.inj (Option.some.inj a1)
  subst e1
  have a2 := rd_den hR
  have b2 := rd_den hR'
  rw [e, b2] at a2
  obtain ⟨e2, _⟩ := Prod.mk.inj (Option.some.inj a2)
  subst e2
  have a3 := rd_vol hR
  have b3 := rd_vol hR'
  rw [e, b3] at a3
  obtain ⟨e3, _⟩ := Prod.mk.inj (Option.some.inj a3)
  have a4 := rd_kind hR
  rw [e, rd_kind hR'] at a4
  exact ⟨(Option.some.inj a4).symm, rfl, rfl, e3.symm⟩
theorem ba_eq {a b : ByteArray} (h : a.data.toList = b.data.toList) : a = b := ByteArray.ext (Array.toList_inj.1 h)
theorem uns_some {t s : ByteArray} (h : Q.unsealed t = some s) : t = s ++ Q.sigil s ∧ s.size ≤ 20000 := by
  unfold Q.unsealed at h
  split at h
  · rename_i hc
    obtain ⟨h1, h2, h3⟩ := hc
    obtain rfl := Option.some.inj h
    have hl := V.size_list t
    refine ⟨ba_eq ?_, ?_⟩
    · unfold Q.okSum at h3
      have e : (t.extract (t.size - 4) t.size).toList = Q.fourB (Q.crc 4294967295 (t.extract 0 (t.size - 4)).data.toList) := by
        have := eq_of_beq h3
        exact this.symm
      rw [ByteArray.toList_eq] at e
      have e2 : (Q.sigil (t.extract 0 (t.size - 4))).data.toList = (t.extract (t.size - 4) t.size).data.toList := by rw [e]; simp [Q.sigil]
      rw [ByteArray.data_append, Array.toList_append, e2, V.ext_list, V.ext_list]
      simp only [List.drop_zero, Nat.sub_zero]
      rw [List.take_of_length_le (l := List.drop (t.size - 4) t.data.toList) (by rw [List.length_drop]; omega), List.take_append_drop]
    · rw [ByteArray.size_extract]
      omega
  · cases h
theorem uns_seal {s : ByteArray} (h : s.size ≤ 20000) : Q.unsealed (s ++ Q.sigil s) = some s := by
  have hz : (s ++ Q.sigil s).size = s.size + 4 := by rw [ByteArray.size_append, Q.sigil_size]
  have hs := V.size_list s
  have e0 : (s ++ Q.sigil s).extract 0 s.size = s := ba_eq (by
    rw [V.ext_list, ByteArray.data_append, Array.toList_append]
    simp only [List.drop_zero, Nat.sub_zero]
    rw [hs, List.take_left])
  have e1 : ((s ++ Q.sigil s).extract s.size (s ++ Q.sigil s).size).toList = (Q.sigil s).data.toList := by
    rw [ByteArray.toList_eq, V.ext_list, hz, ByteArray.data_append, Array.toList_append, hs, List.drop_left]
    rw [List.take_of_length_le]
    rw [← V.size_list, Q.sigil_size]
    omega
  unfold Q.unsealed
  rw [if_pos ⟨by omega, by omega, by
    rw [hz, Nat.add_sub_cancel]
    unfold Q.okSum
    rw [e0, e1]
    simp [Q.sigil]⟩, hz, Nat.add_sub_cancel, e0]
theorem ordB_small {k n d v : Int} (hR : OrdR k n d v) : (ordB k n d v).size ≤ 16 := by
  obtain ⟨_, h1, h2, h3⟩ := hR.bd
  have a1 := V.vt_five (n := n.toNat) (by omega)
  have a2 := V.vt_five (n := d.toNat) (by omega)
  have a3 := V.vt_five (n := v.toNat) (by omega)
  rw [ordB_size]
  omega
theorem uns_ord {k n d v : Int} {t : ByteArray} (hR : OrdR k n d v) (h : ordT k n d v = t) : Q.unsealed t = some (ordB k n d v) := by
  rw [← h]
  exact uns_seal (by have := ordB_small hR; omega)
theorem ordT_inj {k n d v k' n' d' v' : Int} (hR : OrdR k n d v) (hR' : OrdR k' n' d' v') (e : ordT k n d v = ordT k' n' d' v') : k = k' ∧ n = n' ∧ d = d' ∧ v = v' :=
  ordB_inj hR hR' (Option.some.inj ((uns_ord hR rfl).symm.trans (uns_ord hR' e.symm)))
def RdOr (t : ByteArray) (k n d v : Int) (b : Bool) : Prop := (OrdR k n d v ∧ ordT k n d v = t ∧ b = true) ∨ ((∀ k n d v, OrdR k n d v → ordT k n d v ≠ t) ∧ b = false ∧ k = 0 ∧ n = 0 ∧ d = 0 ∧ v = 0)
theorem RdOr.uni {t : ByteArray} {k n d v k' n' d' v' : Int} {b b' : Bool} (h : RdOr t k n d v b) (h' : RdOr t k' n' d' v' b') : k = k' ∧ n = n' ∧ d = d' ∧ v = v' ∧ b = b' := by
  rcases h with ⟨h1, h2, rfl⟩ | ⟨h1, rfl, rfl, rfl, rfl, rfl⟩ <;> rcases h' with ⟨g1, g2, rfl⟩ | ⟨g1, rfl, rfl, rfl, rfl, rfl⟩
  · obtain ⟨a, b, c, d⟩ := ordT_inj h1 g1 (h2.trans g2.symm)
    exact ⟨a, b, c, d, rfl⟩
  · exact absurd h2 (g1 _ _ _ _ h1)
  · exact absurd g2 (h1 _ _ _ _ g1)
  · exact ⟨rfl, rfl, rfl, rfl, rfl⟩
end Go.Proofs.YtfhhnelffldggaaGreatDoor
