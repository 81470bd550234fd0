/-
  Menus of the specification: Press.
-/
import Derived.Test.YtfhhnelffldggaaGreatDoorUqAG
set_option maxRecDepth 100000
set_option maxHeartbeats 16000000
namespace Go.Proofs.YtfhhnelffldggaaGreatDoor
open Go.RowKit Go.PlainAid
set_option linter.unusedVariables false
set_option linter.unusedSimpArgs false
theorem menuokS' (a : Int) (b : Bool) (n d : Int) (s : List UInt8) (S : ByteArray) (hS : (⟨s.toArray⟩ : ByteArray) = S) (B : Bool) (hB : okM ⟨a, b, n, d, s⟩ = B) (w : World) : Calls Tryz.prog 96 #[.agg #[.int .i64 a, .bool b, .int .i64 n, .int .i64 d, .string S]] w fun e w' => e = .returned (.bool B) ∧ Below w.heap.size w w' := by
 subst hS
 exact menuokS ⟨a, b, n, d, s⟩ B hB w
theorem topS' (a : Int) (b : Bool) (n d : Int) (s : List UInt8) (S : ByteArray) (hS : (⟨s.toArray⟩ : ByteArray) = S) (key : Int) (r : Pr) (hr : topM ⟨a, b, n, d, s⟩ key = r) (w : World) : Calls Tryz.prog 154 #[.agg #[.int .i64 a, .bool b, .int .i64 n, .int .i64 d, .string S], .int .i64 key] w fun e w' => e = .returned (.tuple #[mnV r.m, ordV r.k r.n r.d r.v, .bool r.t]) ∧ Below w.heap.size w w' := by
 subst hS
 exact topS ⟨a, b, n, d, s⟩ key r hr w
theorem numS' (s : List UInt8) (S : ByteArray) (hS : (⟨s.toArray⟩ : ByteArray) = S) (z : Int) (hz : numF s = z) (hf : ∀ x ∈ s, figB x = true) (hl : s.length ≤ 4) (w : World) : Calls Tryz.prog 155 #[.string S] w fun e w' => e = .returned (.int .i64 z) ∧ w' = w := by
 subst hS
 exact numS s z hz hf hl w
theorem one_text (b : UInt8) (w : World) : (convert 22 9 (.slice (some ⟨w.heap.size, 0, none⟩) 1 1)).run Tryz.prog (w.alloc (.cells #[.int .u8 (b.toNat : Int)] 5)) = .ok (.string ⟨[b].toArray⟩) (w.alloc (.cells #[.int .u8 (b.toNat : Int)] 5)) :=
 run_convert_bytes_back (P := Tryz.prog) _ 22 9 5 ⟨w.heap.size, 0, none⟩ 1 [b] Tryz.underlying22 Tryz.underlying5 Tryz.underlying9 (fun j hj => by
  obtain rfl : j = 0 := by simpa using hj
  simp [Addr.add])
theorem key_byte {key : Int} (h : 48 ≤ key ∧ key ≤ 57) : ∃ x : UInt8, (x.toNat : Int) = key ∧ UInt8.ofNat key.toNat = x := by
 refine ⟨UInt8.ofNat key.toNat, ?_, rfl⟩
 have : (UInt8.ofNat key.toNat).toNat = key.toNat := by simp; omega
 rw [this]
 omega
theorem pressS (m : Mn) (key : Int) (r : Pr) (hr : pressM m key = r) (w : World) : Calls Tryz.prog 102 #[mnV m, .int .i64 key] w fun e w' => e = .returned (.tuple #[mnV r.m, ordV r.k r.n r.d r.v, .bool r.t]) ∧ Below w.heap.size w w' := by
 obtain ⟨a, b, n, d, s⟩ := m
 obtain ⟨S, hS⟩ : ∃ S : ByteArray, (⟨s.toArray⟩ : ByteArray) = S := ⟨_, rfl⟩
 obtain ⟨h1, h2, h3, h4, h5⟩ := box3m w (.cells #[.int .i64 a, .bool b, .int .i64 n, .int .i64 d, .string S] 34) (.cells #[.int .i64 0, .bool false, .int .i64 0, .int .i64 0, .string ⟨#[]⟩] 34) (oB 0 0 0 0)
 have HP0 := hq h1
 have HZ0 := hq h2
 have HO0 := hq h3
 have HB0 := hq h4
 have p0 := box5_cells h1
 clear h1 h2 h3 h4 h5
 unfold mnV ordV
 dsimp only
 rw [hS]
 have HR := hq hr
 have HS := hq hS
 have hsz := txt_size hS
 obtain ⟨B, hB⟩ : ∃ B, okM ⟨a, b, n, d, s⟩ = B := ⟨_, rfl⟩
 have HOK := hq hB
 clear hr hS hB
 go_enter Tryz.func102, Tryz.ntmps102
 go_wp2_with fail
 refine (menuokS' a b n d s S HS.out B HOK.out _).mono ?_
 rintro e w1 ⟨rfl, hb1⟩
 have HB1 := bq HB0 hb1
 have HP1 := rq HP0 hb1
 have HZ1 := rq HZ0 hb1
 have HO1 := rq HO0 hb1
 have p1 := box5_cells HP1.out
 clear hb1 HB0 HP0 HZ0 HO0 p0
 cases B
 ·
  obtain rfl : noP ⟨a, b, n, d, s⟩ = r := by rw [← HR.out]; unfold pressM; rw [if_pos HOK.out]
  clear HR
  go_upto_region 2 with fail
  go_wp2_with (refine listStoreM rfl rfl _ _ _ rfl rfl (w.heap.size + 1) (a) (b) (n) (d) (S) rfl rfl HZ1.out ?_)
  intro w8 hput
  have HB8 := hq (hput.2.2.2 _ _ (Nat.le_succ _) HB1.out)
  have HO8 := hq (hput.far HO1.out (by omega))
  have HZ8 := hq hput.1
  clear hput
  go_wp2_with (refine listStoreO rfl rfl _ _ _ rfl rfl (w.heap.size + 2) (0) (0) (0) (0) rfl rfl HO8.out ?_)
  intro w9 hput
  have HB9 := hq (hput.2.2.2 _ _ (by omega) HB8.out)
  have zz := box5_cells (hput.far HZ8.out (by omega))
  have yy := box4_cells hput.1
  clear hput HB8 HO8 HZ8
  go_wp2
  refine bodyPost_ret (v := .tuple #[.agg #[.int .i64 a, .bool b, .int .i64 n, .int .i64 d, .string S], .agg #[.int .i64 0, .int .i64 0, .int .i64 0, .int .i64 0], .bool false]) (by simp only [results, Tryz.results102]; simp [go_sem, zz, yy]) rfl ⟨(by rw [← HS.out]; rfl), HB9.out⟩
 have HOF := (okM_iff _).1 HOK.out
 have HFG : Hid (∀ x ∈ s, figB x = true) := HOF.2.1
 have hlen : s.length ≤ 4 := HOF.1.2.2.2
 have HR1 : Hid ((if a = 1 then topM ⟨a, b, n, d, s⟩ key else if 48 ≤ key ∧ key ≤ 57 then (if s.length < 4 then noP ⟨a, b, n, d, s ++ [UInt8.ofNat key.toNat]⟩ else noP ⟨a, b, n, d, s⟩) else if key = 99 then noP newM else if key ≠ 10 then noP ⟨a, b, n, d, s⟩ else if a = 2 then noP ⟨3, b, numF s, d, []⟩ else if a = 3 then noP ⟨4, b, n, numF s, []⟩ else endM ⟨a, b, n, d, s⟩) = r) := by
  have h := HR.out
  unfold pressM at h
  rw [if_neg (by rw [HOK.out]; decide)] at h
  exact h
 have ha4 : 1 ≤ a ∧ a ≤ 4 := HOF.1.1
 clear HR HOK HOF
 by_cases a1 : a = 1
 ·
  have HT : Hid (topM ⟨a, b, n, d, s⟩ key = r) := by have h := HR1.out; rw [if_pos a1] at h; exact h
  have q1 : (a == 1) = true := by simpa using a1
  clear HR1 a1 ha4
  obtain ⟨⟨a2, b2, n2, d2, s2⟩, k3, n3, d3, v3, t3⟩ := r
  go_wp2_with fail
  refine (topS' a b n d s S HS.out key _ HT.out _).mono ?_
  rintro e w2 ⟨rfl, hb1⟩
  have HB2 := bq HB1 hb1
  have HP2 := rq HP1 hb1
  have HZ2 := rq HZ1 hb1
  have HO2 := rq HO1 hb1
  have p2 := box5_cells HP2.out
  clear hb1 HB1 HP1 HZ1 HO1 p1
  unfold mnV ordV
  dsimp only
  go_wp2_with (refine listStoreM rfl rfl _ _ _ rfl rfl (w.heap.size + 1) (a2) (b2) (n2) (d2) (⟨s2.toArray⟩) rfl rfl HZ2.out ?_)
  intro w8 hput
  have HB8 := hq (hput.2.2.2 _ _ (Nat.le_succ _) HB2.out)
  have HO8 := hq (hput.far HO2.out (by omega))
  have HZ8 := hq hput.1
  clear hput
  go_wp2_with (refine listStoreO rfl rfl _ _ _ rfl rfl (w.heap.size + 2) (k3) (n3) (d3) (v3) rfl rfl HO8.out ?_)
  intro w9 hput
  have HB9 := hq (hput.2.2.2 _ _ (by omega) HB8.out)
  have zz := box5_cells (hput.far HZ8.out (by omega))
  have yy := box4_cells hput.1
  clear hput HB8 HO8 HZ8
  go_wp2
  refine bodyPost_ret (v := .tuple #[.agg #[.int .i64 a2, .bool b2, .int .i64 n2, .int .i64 d2, .string ⟨s2.toArray⟩], .agg #[.int .i64 k3, .int .i64 n3, .int .i64 d3, .int .i64 v3], .bool t3]) (by simp only [results, Tryz.results102]; simp [go_sem, zz, yy]) rfl ⟨rfl, HB9.out⟩
 have q1 : (a == 1) = false := by simpa using a1
 by_cases hk : 48 ≤ key ∧ key ≤ 57
 ·
  by_cases h4 : S.size < 4
  ·
   obtain ⟨x, hx, hx2⟩ := key_byte hk
   obtain rfl : noP ⟨a, b, n, d, s ++ [x]⟩ = r := by rw [← HR1.out, if_neg a1, if_pos hk, if_pos (by omega), hx2]
   clear HR1 hx2
   subst hx
   have hk0 : (48 : Int) ≤ x.toNat := hk.1
   have hk1 : (x.toNat : Int) ≤ 57 := hk.2
   have qx : IntKind.u8.wrap (x.toNat : Int) = x.toNat := by rw [IntKind.wrap_u8]; omega
   have h4' : (S.size : Int) < 4 := by omega
   have hone := one_text x w1
   have HSX : Hid ((⟨(s ++ [x]).toArray⟩ : ByteArray) = S ++ (⟨#[x]⟩ : ByteArray)) := by show _ = _; rw [← HS.out, txt_one]
   have HB2 : Hid (Below w.heap.size w (w1.alloc (.cells #[.int .u8 (x.toNat : Int)] 5))) := bel_on (Nat.le_refl _) HB1.out (alM _ _)
   have HP2 : Hid ((w1.alloc (.cells #[.int .u8 (x.toNat : Int)] 5)).heap[w.heap.size]? = some (.cells #[.int .i64 a, .bool b, .int .i64 n, .int .i64 d, .string S] 34)) := row_on HP1.out (alM _ _)
   have HZ2 : Hid ((w1.alloc (.cells #[.int .u8 (x.toNat : Int)] 5)).heap[w.heap.size + 1]? = some (.cells #[.int .i64 0, .bool false, .int .i64 0, .int .i64 0, .string ⟨#[]⟩] 34)) := row_on HZ1.out (alM _ _)
   have HO2 : Hid ((w1.alloc (.cells #[.int .u8 (x.toNat : Int)] 5)).heap[w.heap.size + 2]? = some (oB 0 0 0 0)) := row_on HO1.out (alM _ _)
   have p2 := box5_cells HP2.out
   have hsS : S.size ≤ 4 := by omega
   clear hk
   go_wp2_with (refine listStoreT rfl rfl _ _ _ rfl rfl w.heap.size 4 (S ++ (⟨#[x]⟩ : ByteArray)) rfl rfl HP2.out (by simp) ?_)
   intro w3 hput
   clear hone HB1 HP1 HZ1 HO1 p1
   generalize hSX : S ++ (⟨#[x]⟩ : ByteArray) = SX at *
   have HB3 := hq (hput.2.2.2 _ _ (Nat.le_refl _) HB2.out)
   have HP3 := hq hput.1
   have HZ3 := hq (hput.far HZ2.out (by omega))
   have HO3 := hq (hput.far HO2.out (by omega))
   have p3 := box5_cells HP3.out
   clear hput HB2 HP2 HZ2 HO2 p2
   go_upto_region 8 with fail
   go_wp2_with (refine listStoreM rfl rfl _ _ _ rfl rfl (w.heap.size + 1) (a) (b) (n) (d) (SX) rfl rfl HZ3.out ?_)
   intro w8 hput
   have HB8 := hq (hput.2.2.2 _ _ (Nat.le_succ _) HB3.out)
   have HO8 := hq (hput.far HO3.out (by omega))
   have HZ8 := hq hput.1
   clear hput
   go_wp2_with (refine listStoreO rfl rfl _ _ _ rfl rfl (w.heap.size + 2) (0) (0) (0) (0) rfl rfl HO8.out ?_)
   intro w9 hput
   have HB9 := hq (hput.2.2.2 _ _ (by omega) HB8.out)
   have zz := box5_cells (hput.far HZ8.out (by omega))
   have yy := box4_cells hput.1
   clear hput HB8 HO8 HZ8
   go_wp2
   refine bodyPost_ret (v := .tuple #[.agg #[.int .i64 a, .bool b, .int .i64 n, .int .i64 d, .string SX], .agg #[.int .i64 0, .int .i64 0, .int .i64 0, .int .i64 0], .bool false]) (by simp only [results, Tryz.results102]; simp [go_sem, zz, yy]) rfl ⟨(by rw [← HSX.out]; rfl), HB9.out⟩
  ·
   obtain rfl : noP ⟨a, b, n, d, s⟩ = r := by rw [← HR1.out, if_neg a1, if_pos hk, if_neg (by omega)]
   clear HR1
   have hk0 : (48 : Int) ≤ key := hk.1
   have hk1 : key ≤ 57 := hk.2
   have h4' : ¬ (S.size : Int) < 4 := by omega
   clear hk
   go_upto_region 8 with fail
   go_wp2_with (refine listStoreM rfl rfl _ _ _ rfl rfl (w.heap.size + 1) (a) (b) (n) (d) (S) rfl rfl HZ1.out ?_)
   intro w8 hput
   have HB8 := hq (hput.2.2.2 _ _ (Nat.le_succ _) HB1.out)
   have HO8 := hq (hput.far HO1.out (by omega))
   have HZ8 := hq hput.1
   clear hput
   go_wp2_with (refine listStoreO rfl rfl _ _ _ rfl rfl (w.heap.size + 2) (0) (0) (0) (0) rfl rfl HO8.out ?_)
   intro w9 hput
   have HB9 := hq (hput.2.2.2 _ _ (by omega) HB8.out)
   have zz := box5_cells (hput.far HZ8.out (by omega))
   have yy := box4_cells hput.1
   clear hput HB8 HO8 HZ8
   go_wp2
   refine bodyPost_ret (v := .tuple #[.agg #[.int .i64 a, .bool b, .int .i64 n, .int .i64 d, .string S], .agg #[.int .i64 0, .int .i64 0, .int .i64 0, .int .i64 0], .bool false]) (by simp only [results, Tryz.results102]; simp [go_sem, zz, yy]) rfl ⟨(by rw [← HS.out]; rfl), HB9.out⟩
 have HR2 : Hid ((if key = 99 then noP newM else if key ≠ 10 then noP ⟨a, b, n, d, s⟩ else if a = 2 then noP ⟨3, b, numF s, d, []⟩ else if a = 3 then noP ⟨4, b, n, numF s, []⟩ else endM ⟨a, b, n, d, s⟩) = r) := by
  have h := HR1.out
  rw [if_neg a1, if_neg hk] at h
  exact h
 clear HR1
 have hkc : key < 48 ∨ (48 ≤ key ∧ 57 < key) := by omega
 by_cases k99 : key = 99
 ·
  obtain rfl : noP newM = r := by rw [← HR2.out, if_pos k99]
  clear HR2
  subst k99
  go_wp2_with fail
  refine (menunewS _).mono ?_
  rintro e w2 ⟨rfl, hb1⟩
  unfold mnV newM
  dsimp only
  have HB2 := bq HB1 hb1
  have HP2 := rq HP1 hb1
  have HZ2 := rq HZ1 hb1
  have HO2 := rq HO1 hb1
  have p2 := box5_cells HP2.out
  clear hb1 HB1 HP1 HZ1 HO1 p1
  go_wp2_with (refine listStoreM rfl rfl _ _ _ rfl rfl (w.heap.size + 1) (1) (false) (0) (0) (⟨#[]⟩) rfl rfl HZ2.out ?_)
  intro w8 hput
  have HB8 := hq (hput.2.2.2 _ _ (Nat.le_succ _) HB2.out)
  have HO8 := hq (hput.far HO2.out (by omega))
  have HZ8 := hq hput.1
  clear hput
  go_wp2_with (refine listStoreO rfl rfl _ _ _ rfl rfl (w.heap.size + 2) (0) (0) (0) (0) rfl rfl HO8.out ?_)
  intro w9 hput
  have HB9 := hq (hput.2.2.2 _ _ (by omega) HB8.out)
  have zz := box5_cells (hput.far HZ8.out (by omega))
  have yy := box4_cells hput.1
  clear hput HB8 HO8 HZ8
  go_wp2
  refine bodyPost_ret (v := .tuple #[.agg #[.int .i64 1, .bool false, .int .i64 0, .int .i64 0, .string ⟨#[]⟩], .agg #[.int .i64 0, .int .i64 0, .int .i64 0, .int .i64 0], .bool false]) (by simp only [results, Tryz.results102]; simp [go_sem, zz, yy]) rfl ⟨rfl, HB9.out⟩
 have q99 : (key == 99) = false := by simpa using k99
 by_cases k10 : key = 10
 case neg =>
  obtain rfl : noP ⟨a, b, n, d, s⟩ = r := by rw [← HR2.out, if_neg k99, if_pos k10]
  clear HR2
  have q10 : (key != 10) = true := by simpa using k10
  rcases hkc with hk0 | hk0
  ·
   clear k99 k10 hk
   go_upto_region 12 with fail
   go_wp2_with (refine listStoreM rfl rfl _ _ _ rfl rfl (w.heap.size + 1) (a) (b) (n) (d) (S) rfl rfl HZ1.out ?_)
   intro w8 hput
   have HB8 := hq (hput.2.2.2 _ _ (Nat.le_succ _) HB1.out)
   have HO8 := hq (hput.far HO1.out (by omega))
   have HZ8 := hq hput.1
   clear hput
   go_wp2_with (refine listStoreO rfl rfl _ _ _ rfl rfl (w.heap.size + 2) (0) (0) (0) (0) rfl rfl HO8.out ?_)
   intro w9 hput
   have HB9 := hq (hput.2.2.2 _ _ (by omega) HB8.out)
   have zz := box5_cells (hput.far HZ8.out (by omega))
   have yy := box4_cells hput.1
   clear hput HB8 HO8 HZ8
   go_wp2
   refine bodyPost_ret (v := .tuple #[.agg #[.int .i64 a, .bool b, .int .i64 n, .int .i64 d, .string S], .agg #[.int .i64 0, .int .i64 0, .int .i64 0, .int .i64 0], .bool false]) (by simp only [results, Tryz.results102]; simp [go_sem, zz, yy]) rfl ⟨(by rw [← HS.out]; rfl), HB9.out⟩
  ·
   have hk1 := hk0.1
   have hk2 : ¬ key ≤ 57 := by omega
   clear k99 k10 hk hk0
   go_upto_region 12 with fail
   go_wp2_with (refine listStoreM rfl rfl _ _ _ rfl rfl (w.heap.size + 1) (a) (b) (n) (d) (S) rfl rfl HZ1.out ?_)
   intro w8 hput
   have HB8 := hq (hput.2.2.2 _ _ (Nat.le_succ _) HB1.out)
   have HO8 := hq (hput.far HO1.out (by omega))
   have HZ8 := hq hput.1
   clear hput
   go_wp2_with (refine listStoreO rfl rfl _ _ _ rfl rfl (w.heap.size + 2) (0) (0) (0) (0) rfl rfl HO8.out ?_)
   intro w9 hput
   have HB9 := hq (hput.2.2.2 _ _ (by omega) HB8.out)
   have zz := box5_cells (hput.far HZ8.out (by omega))
   have yy := box4_cells hput.1
   clear hput HB8 HO8 HZ8
   go_wp2
   refine bodyPost_ret (v := .tuple #[.agg #[.int .i64 a, .bool b, .int .i64 n, .int .i64 d, .string S], .agg #[.int .i64 0, .int .i64 0, .int .i64 0, .int .i64 0], .bool false]) (by simp only [results, Tryz.results102]; simp [go_sem, zz, yy]) rfl ⟨(by rw [← HS.out]; rfl), HB9.out⟩
 have HR3 : Hid ((if a = 2 then noP ⟨3, b, numF s, d, []⟩ else if a = 3 then noP ⟨4, b, n, numF s, []⟩ else endM ⟨a, b, n, d, s⟩) = r) := by
  have h := HR2.out
  rw [if_neg k99, if_neg (fun h => h k10)] at h
  exact h
 clear HR2 hk hkc k99 q99
 subst k10
 obtain ⟨z, hz⟩ : ∃ z, numF s = z := ⟨_, rfl⟩
 rw [hz] at HR3
 have HZF := hq hz
 clear hz
 go_wp2_with fail
 refine (numS' s S HS.out z HZF.out HFG.out hlen _).mono ?_
 rintro e w2 ⟨rfl, hw⟩
 obtain rfl : w1 = w2 := hw.symm
 clear hw
 go_wp2_with (refine listStoreT rfl rfl _ _ _ rfl rfl w.heap.size 4 (⟨#[]⟩ : ByteArray) rfl rfl HP1.out (by simp) ?_)
 intro w2 hput
 have HB2 := hq (hput.2.2.2 _ _ (Nat.le_refl _) HB1.out)
 have HP2 := hq hput.1
 have HZ2 := hq (hput.far HZ1.out (by omega))
 have HO2 := hq (hput.far HO1.out (by omega))
 have p2 := box5_cells HP2.out
 clear hput HB1 HP1 HZ1 HO1 p1
 by_cases a2 : a = 2
 ·
  obtain rfl : noP ⟨3, b, z, d, []⟩ = r := by rw [← HR3.out, if_pos a2]
  clear HR3 HZF HFG HS q1 a1 ha4
  subst a2
  go_wp2_with (refine listStoreI rfl rfl _ _ _ rfl rfl w.heap.size 2 z rfl rfl HP2.out (by simp) ?_)
  intro w3 hput
  have HB3 := hq (hput.2.2.2 _ _ (Nat.le_refl _) HB2.out)
  have HP3 := hq hput.1
  have HZ3 := hq (hput.far HZ2.out (by omega))
  have HO3 := hq (hput.far HO2.out (by omega))
  have p3 := box5_cells HP3.out
  clear hput HB2 HP2 HZ2 HO2 p2
  go_wp2_with (refine listStoreI rfl rfl _ _ _ rfl rfl w.heap.size 0 3 rfl rfl HP3.out (by simp) ?_)
  intro w4 hput
  have HB4 := hq (hput.2.2.2 _ _ (Nat.le_refl _) HB3.out)
  have HP4 := hq hput.1
  have HZ4 := hq (hput.far HZ3.out (by omega))
  have HO4 := hq (hput.far HO3.out (by omega))
  have p4 := box5_cells HP4.out
  clear hput HB3 HP3 HZ3 HO3 p3
  go_upto_region 19 with fail
  go_wp2_with (refine listStoreM rfl rfl _ _ _ rfl rfl (w.heap.size + 1) (3) (b) (z) (d) (⟨#[]⟩) rfl rfl HZ4.out ?_)
  intro w8 hput
  have HB8 := hq (hput.2.2.2 _ _ (Nat.le_succ _) HB4.out)
  have HO8 := hq (hput.far HO4.out (by omega))
  have HZ8 := hq hput.1
  clear hput
  go_wp2_with (refine listStoreO rfl rfl _ _ _ rfl rfl (w.heap.size + 2) (0) (0) (0) (0) rfl rfl HO8.out ?_)
  intro w9 hput
  have HB9 := hq (hput.2.2.2 _ _ (by omega) HB8.out)
  have zz := box5_cells (hput.far HZ8.out (by omega))
  have yy := box4_cells hput.1
  clear hput HB8 HO8 HZ8
  go_wp2
  refine bodyPost_ret (v := .tuple #[.agg #[.int .i64 3, .bool b, .int .i64 z, .int .i64 d, .string ⟨#[]⟩], .agg #[.int .i64 0, .int .i64 0, .int .i64 0, .int .i64 0], .bool false]) (by simp only [results, Tryz.results102]; simp [go_sem, zz, yy]) rfl ⟨rfl, HB9.out⟩
 have q2 : (a == 2) = false := by simpa using a2
 by_cases a3 : a = 3
 ·
  obtain rfl : noP ⟨4, b, n, z, []⟩ = r := by rw [← HR3.out, if_neg a2, if_pos a3]
  clear HR3 HZF HFG HS q1 a1 ha4 a2 q2
  subst a3
  go_wp2_with (refine listStoreI rfl rfl _ _ _ rfl rfl w.heap.size 3 z rfl rfl HP2.out (by simp) ?_)
  intro w3 hput
  have HB3 := hq (hput.2.2.2 _ _ (Nat.le_refl _) HB2.out)
  have HP3 := hq hput.1
  have HZ3 := hq (hput.far HZ2.out (by omega))
  have HO3 := hq (hput.far HO2.out (by omega))
  have p3 := box5_cells HP3.out
  clear hput HB2 HP2 HZ2 HO2 p2
  go_wp2_with (refine listStoreI rfl rfl _ _ _ rfl rfl w.heap.size 0 4 rfl rfl HP3.out (by simp) ?_)
  intro w4 hput
  have HB4 := hq (hput.2.2.2 _ _ (Nat.le_refl _) HB3.out)
  have HP4 := hq hput.1
  have HZ4 := hq (hput.far HZ3.out (by omega))
  have HO4 := hq (hput.far HO3.out (by omega))
  have p4 := box5_cells HP4.out
  clear hput HB3 HP3 HZ3 HO3 p3
  go_upto_region 23 with fail
  go_wp2_with (refine listStoreM rfl rfl _ _ _ rfl rfl (w.heap.size + 1) (4) (b) (n) (z) (⟨#[]⟩) rfl rfl HZ4.out ?_)
  intro w8 hput
  have HB8 := hq (hput.2.2.2 _ _ (Nat.le_succ _) HB4.out)
  have HO8 := hq (hput.far HO4.out (by omega))
  have HZ8 := hq hput.1
  clear hput
  go_wp2_with (refine listStoreO rfl rfl _ _ _ rfl rfl (w.heap.size + 2) (0) (0) (0) (0) rfl rfl HO8.out ?_)
  intro w9 hput
  have HB9 := hq (hput.2.2.2 _ _ (by omega) HB8.out)
  have zz := box5_cells (hput.far HZ8.out (by omega))
  have yy := box4_cells hput.1
  clear hput HB8 HO8 HZ8
  go_wp2
  refine bodyPost_ret (v := .tuple #[.agg #[.int .i64 4, .bool b, .int .i64 n, .int .i64 z, .string ⟨#[]⟩], .agg #[.int .i64 0, .int .i64 0, .int .i64 0, .int .i64 0], .bool false]) (by simp only [results, Tryz.results102]; simp [go_sem, zz, yy]) rfl ⟨rfl, HB9.out⟩
 have q3 : (a == 3) = false := by simpa using a3
 have HE : Hid (endM ⟨a, b, n, d, s⟩ = r) := by have h := HR3.out; rw [if_neg a2, if_neg a3] at h; exact h
 obtain rfl : a = 4 := by omega
 clear HR3 HFG HS q1 q2 q3 a1 a2 a3 ha4 hlen hsz
 have HB3 : Hid (Below w.heap.size w (w2.alloc (oB 1 n d z))) := bel_on (Nat.le_refl _) HB2.out (alM _ _)
 have HP3 : Hid ((w2.alloc (oB 1 n d z)).heap[w.heap.size]? = some (.cells #[.int .i64 4, .bool b, .int .i64 n, .int .i64 d, .string ⟨#[]⟩] 34)) := row_on HP2.out (alM _ _)
 have HZ3 : Hid ((w2.alloc (oB 1 n d z)).heap[w.heap.size + 1]? = some (.cells #[.int .i64 0, .bool false, .int .i64 0, .int .i64 0, .string ⟨#[]⟩] 34)) := row_on HZ2.out (alM _ _)
 have HO3 : Hid ((w2.alloc (oB 1 n d z)).heap[w.heap.size + 2]? = some (oB 0 0 0 0)) := row_on HO2.out (alM _ _)
 have HY3 : Hid ((w2.alloc (oB 1 n d z)).heap[w2.heap.size]? = some (oB 1 n d z)) := heap_new w2 _
 have p3 := box5_cells HP3.out
 have hY : w.heap.size + 2 < w2.heap.size := row_lt HO2.out
 obtain ⟨Y, hYe⟩ : ∃ Y, w2.heap.size = Y := ⟨_, rfl⟩
 cases b
 ·
  go_upto_region 25 with fail
  rw [hYe] at HY3 hY
  try rw [hYe]
  clear hYe
  obtain ⟨B, hB⟩ := ord_bool (1) (n) (d) (z)
  have HBO := hq hB
  have y3 := box4_cells HY3.out
  clear hB
  go_wp2_with fail
  refine (ordokS (1) (n) (d) (z) B HBO.out _).mono ?_
  rintro e w5 ⟨rfl, hb1⟩
  have HY5 := rq HY3 hb1
  clear y3 HY3
  have HB5 := bq HB3 hb1
  have HP5 := rq HP3 hb1
  have HZ5 := rq HZ3 hb1
  have HO5 := rq HO3 hb1
  have p5 := box5_cells HP5.out
  clear hb1 HB3 HP3 HZ3 HO3 p3
  have y5 := box4_cells HY5.out
  cases B
  ·
   obtain rfl : noP newM = r := by rw [← HE.out]; unfold endM; rw [if_neg Bool.false_ne_true, if_neg (by intro h; have := HBO.out.2 (Or.inl ⟨rfl, by rw [HZF.out] at h; exact h⟩); cases this)]
   clear HE HBO
   go_wp2_with fail
   refine (menunewS _).mono ?_
   rintro e w6 ⟨rfl, hb1⟩
   unfold mnV newM
   dsimp only
   have HB6 := bq HB5 hb1
   have HP6 := rq HP5 hb1
   have HZ6 := rq HZ5 hb1
   have HO6 := rq HO5 hb1
   have p6 := box5_cells HP6.out
   clear hb1 HB5 HP5 HZ5 HO5 p5
   go_wp2_with (refine listStoreM rfl rfl _ _ _ rfl rfl (w.heap.size + 1) (1) (false) (0) (0) (⟨#[]⟩) rfl rfl HZ6.out ?_)
   intro w8 hput
   have HB8 := hq (hput.2.2.2 _ _ (Nat.le_succ _) HB6.out)
   have HO8 := hq (hput.far HO6.out (by omega))
   have HZ8 := hq hput.1
   clear hput
   go_wp2_with (refine listStoreO rfl rfl _ _ _ rfl rfl (w.heap.size + 2) (0) (0) (0) (0) rfl rfl HO8.out ?_)
   intro w9 hput
   have HB9 := hq (hput.2.2.2 _ _ (by omega) HB8.out)
   have zz := box5_cells (hput.far HZ8.out (by omega))
   have yy := box4_cells hput.1
   clear hput HB8 HO8 HZ8
   go_wp2
   refine bodyPost_ret (v := .tuple #[.agg #[.int .i64 1, .bool false, .int .i64 0, .int .i64 0, .string ⟨#[]⟩], .agg #[.int .i64 0, .int .i64 0, .int .i64 0, .int .i64 0], .bool false]) (by simp only [results, Tryz.results102]; simp [go_sem, zz, yy]) rfl ⟨rfl, HB9.out⟩
  ·
   obtain rfl : (⟨newM, 1, n, d, z, true⟩ : Pr) = r := by rw [← HE.out]; unfold endM; rw [if_neg Bool.false_ne_true, if_pos (by have h := HBO.out.1 rfl; unfold OrdR at h; show (1 ≤ d ∧ d ≤ 1000) ∧ (1 ≤ n ∧ n ≤ 1000) ∧ n ≤ 3 * d ∧ (1 ≤ numF s ∧ numF s ≤ 5000); rw [HZF.out]; omega)]; show _ = (⟨newM, 1, n, d, numF s, true⟩ : Pr); rw [HZF.out]
   clear HE HBO
   go_upto_region 29 with fail
   refine wp_region_held_drew (S := fun w' => w'.cell? ⟨Y, 0, none⟩ = some (.int .i64 1) ∧ w'.cell? ⟨Y, 1, none⟩ = some (.int .i64 n) ∧ w'.cell? ⟨Y, 2, none⟩ = some (.int .i64 d) ∧ w'.cell? ⟨Y, 3, none⟩ = some (.int .i64 z) ∧ Below w.heap.size w w') (by kernel_rfl) (ky4 (w' := w5.drew) HY5.out HB5.out.drew) (fun hHeld => ?_)
   refine tkQ 1 ?_ rfl ?_ ?_
   rotate_left
   · intro w_ hSw; (try dsimp only at hSw); go_simp <;> with_reducible rfl
   try simp only [Act.put, sQ]
   refine wpAnyH_ready (rs := [0]) (by kernel_rfl) (by simp) ?_
   refine AllReadyH.cons rfl (fun J hJ => ?_) AllReadyH.nil
   go_simp
   go_at_call 47
   refine (menunewS _).mono ?_
   rintro e w6 ⟨rfl, hbc⟩
   have HB6 : Hid (Below w.heap.size w w6) := bel_on (Nat.le_refl _) HB5.out.drew hbc
   have HY6 : Hid (w6.heap[Y]? = some (oB 1 n d z)) := row_on (w := w5.drew) HY5.out hbc
   have HZ6 : Hid (w6.heap[w.heap.size + 1]? = some (.cells #[.int .i64 0, .bool false, .int .i64 0, .int .i64 0, .string ⟨#[]⟩] 34)) := row_on (w := w5.drew) HZ5.out hbc
   have HO6 : Hid (w6.heap[w.heap.size + 2]? = some (oB 0 0 0 0)) := row_on (w := w5.drew) HO5.out hbc
   unfold mnV newM
   dsimp only
   clear hbc HB5 HY5 HZ5 HO5 HP5 p5 y5
   go_wp2_with fail
   refine hJ.out _ _ (ky4 HY6.out HB6.out) (fun hHeld1 => ?_)
   clear hJ J hHeld
   try simp only [Act.put, sQ]
   refine wpAnyH_ready (rs := [2]) (by kernel_rfl) (by simp) ?_
   refine AllReadyH.cons rfl (fun J hJ => ?_) AllReadyH.nil
   refine storeM_any rfl rfl _ _ _ rfl rfl (w.heap.size + 1) 1 false 0 0 ⟨#[]⟩ rfl rfl HZ6.out ?_
   intro w7 hput
   have HB7 := hq (hput.2.2.2 _ _ (Nat.le_succ _) HB6.out)
   have HY7 := hq (hput.far HY6.out (by omega))
   have HZ7 := hq hput.1
   have HO7 := hq (hput.far HO6.out (by omega))
   clear hput HB6 HY6 HZ6 HO6
   refine hJ.out _ _ (ky4 HY7.out HB7.out) (fun hHeld2 => ?_)
   clear hJ J hHeld1
   try simp only [Act.put, sQ]
   refine wpAnyH_ready (rs := [3]) (by kernel_rfl) (by simp) ?_
   refine AllReadyH.cons rfl (fun J hJ => ?_) AllReadyH.nil
   refine storeO_any rfl rfl _ _ _ rfl rfl (w.heap.size + 2) 1 n d z rfl rfl HO7.out ?_
   intro w9 hput
   have HB9 := hq (hput.2.2.2 _ _ (by omega) HB7.out)
   have HY9 := hq (hput.far HY7.out (by omega))
   have zz := box5_cells (hput.far HZ7.out (by omega))
   have yy := box4_cells hput.1
   clear hput HB7 HY7 HZ7 HO7
   refine hJ.out _ _ (ky4 HY9.out HB9.out) (fun hHeld3 => ?_)
   clear hJ J hHeld2
   try simp only [Act.put, sQ]
   refine tkQ 4 ?_ rfl ?_ ?_
   rotate_left
   · intro w_ hSw; (try dsimp only at hSw); go_simp <;> with_reducible rfl
   try simp only [Act.put, sQ]
   refine wpAnyH_done (by kernel_rfl) ?_ _
   clear hHeld3
   go_wp2
   refine bodyPost_ret (v := .tuple #[.agg #[.int .i64 1, .bool false, .int .i64 0, .int .i64 0, .string ⟨#[]⟩], .agg #[.int .i64 1, .int .i64 n, .int .i64 d, .int .i64 z], .bool true]) (by simp only [results, Tryz.results102]; simp [go_sem, zz, yy]) rfl ⟨rfl, HB9.out⟩
 ·
  have HB4a : Hid (Below w.heap.size w (w2.alloc (oB 1 n d z))) := HB3.out
  go_upto_region 26 with fail
  rw [hYe] at HY3 hY
  try rw [hYe]
  clear hYe HB4a
  go_wp2_with (refine listStoreO rfl rfl _ _ _ rfl rfl Y 2 0 0 z rfl rfl HY3.out ?_)
  intro w4 hput
  have HB4 := hq (hput.2.2.2 _ _ (by omega) HB3.out)
  have HP4 := hq (hput.far HP3.out (by omega))
  have HZ4 := hq (hput.far HZ3.out (by omega))
  have HO4 := hq (hput.far HO3.out (by omega))
  have HY4 := hq hput.1
  have p4 := box5_cells HP4.out
  clear hput HB3 HP3 HZ3 HO3 HY3 p3
  obtain ⟨B, hB⟩ := ord_bool (2) (0) (0) (z)
  have HBO := hq hB
  have y4 := box4_cells HY4.out
  clear hB
  go_wp2_with fail
  refine (ordokS (2) (0) (0) (z) B HBO.out _).mono ?_
  rintro e w5 ⟨rfl, hb1⟩
  have HY5 := rq HY4 hb1
  clear y4 HY4
  have HB5 := bq HB4 hb1
  have HP5 := rq HP4 hb1
  have HZ5 := rq HZ4 hb1
  have HO5 := rq HO4 hb1
  have p5 := box5_cells HP5.out
  clear hb1 HB4 HP4 HZ4 HO4 p4
  have y5 := box4_cells HY5.out
  cases B
  ·
   obtain rfl : noP newM = r := by rw [← HE.out]; unfold endM; rw [if_pos rfl, if_neg (by intro h; have := HBO.out.2 (Or.inr (Or.inl ⟨rfl, (by rw [HZF.out] at h; exact h), rfl, rfl⟩)); cases this)]
   clear HE HBO
   go_wp2_with fail
   refine (menunewS _).mono ?_
   rintro e w6 ⟨rfl, hb1⟩
   unfold mnV newM
   dsimp only
   have HB6 := bq HB5 hb1
   have HP6 := rq HP5 hb1
   have HZ6 := rq HZ5 hb1
   have HO6 := rq HO5 hb1
   have p6 := box5_cells HP6.out
   clear hb1 HB5 HP5 HZ5 HO5 p5
   go_wp2_with (refine listStoreM rfl rfl _ _ _ rfl rfl (w.heap.size + 1) (1) (false) (0) (0) (⟨#[]⟩) rfl rfl HZ6.out ?_)
   intro w8 hput
   have HB8 := hq (hput.2.2.2 _ _ (Nat.le_succ _) HB6.out)
   have HO8 := hq (hput.far HO6.out (by omega))
   have HZ8 := hq hput.1
   clear hput
   go_wp2_with (refine listStoreO rfl rfl _ _ _ rfl rfl (w.heap.size + 2) (0) (0) (0) (0) rfl rfl HO8.out ?_)
   intro w9 hput
   have HB9 := hq (hput.2.2.2 _ _ (by omega) HB8.out)
   have zz := box5_cells (hput.far HZ8.out (by omega))
   have yy := box4_cells hput.1
   clear hput HB8 HO8 HZ8
   go_wp2
   refine bodyPost_ret (v := .tuple #[.agg #[.int .i64 1, .bool false, .int .i64 0, .int .i64 0, .string ⟨#[]⟩], .agg #[.int .i64 0, .int .i64 0, .int .i64 0, .int .i64 0], .bool false]) (by simp only [results, Tryz.results102]; simp [go_sem, zz, yy]) rfl ⟨rfl, HB9.out⟩
  ·
   obtain rfl : (⟨newM, 2, 0, 0, z, true⟩ : Pr) = r := by rw [← HE.out]; unfold endM; rw [if_pos rfl, if_pos (by have h := HBO.out.1 rfl; unfold OrdR at h; show 1 ≤ numF s ∧ numF s ≤ 100; rw [HZF.out]; omega)]; show _ = (⟨newM, 2, 0, 0, numF s, true⟩ : Pr); rw [HZF.out]
   clear HE HBO
   go_upto_region 29 with fail
   refine wp_region_held_drew (S := fun w' => w'.cell? ⟨Y, 0, none⟩ = some (.int .i64 2) ∧ w'.cell? ⟨Y, 1, none⟩ = some (.int .i64 0) ∧ w'.cell? ⟨Y, 2, none⟩ = some (.int .i64 0) ∧ w'.cell? ⟨Y, 3, none⟩ = some (.int .i64 z) ∧ Below w.heap.size w w') (by kernel_rfl) (ky4 (w' := w5.drew) HY5.out HB5.out.drew) (fun hHeld => ?_)
   refine tkQ 1 ?_ rfl ?_ ?_
   rotate_left
   · intro w_ hSw; (try dsimp only at hSw); go_simp <;> with_reducible rfl
   try simp only [Act.put, sQ]
   refine wpAnyH_ready (rs := [0]) (by kernel_rfl) (by simp) ?_
   refine AllReadyH.cons rfl (fun J hJ => ?_) AllReadyH.nil
   go_simp
   go_at_call 47
   refine (menunewS _).mono ?_
   rintro e w6 ⟨rfl, hbc⟩
   have HB6 : Hid (Below w.heap.size w w6) := bel_on (Nat.le_refl _) HB5.out.drew hbc
   have HY6 : Hid (w6.heap[Y]? = some (oB 2 0 0 z)) := row_on (w := w5.drew) HY5.out hbc
   have HZ6 : Hid (w6.heap[w.heap.size + 1]? = some (.cells #[.int .i64 0, .bool false, .int .i64 0, .int .i64 0, .string ⟨#[]⟩] 34)) := row_on (w := w5.drew) HZ5.out hbc
   have HO6 : Hid (w6.heap[w.heap.size + 2]? = some (oB 0 0 0 0)) := row_on (w := w5.drew) HO5.out hbc
   unfold mnV newM
   dsimp only
   clear hbc HB5 HY5 HZ5 HO5 HP5 p5 y5
   go_wp2_with fail
   refine hJ.out _ _ (ky4 HY6.out HB6.out) (fun hHeld1 => ?_)
   clear hJ J hHeld
   try simp only [Act.put, sQ]
   refine wpAnyH_ready (rs := [2]) (by kernel_rfl) (by simp) ?_
   refine AllReadyH.cons rfl (fun J hJ => ?_) AllReadyH.nil
   refine storeM_any rfl rfl _ _ _ rfl rfl (w.heap.size + 1) 1 false 0 0 ⟨#[]⟩ rfl rfl HZ6.out ?_
   intro w7 hput
   have HB7 := hq (hput.2.2.2 _ _ (Nat.le_succ _) HB6.out)
   have HY7 := hq (hput.far HY6.out (by omega))
   have HZ7 := hq hput.1
   have HO7 := hq (hput.far HO6.out (by omega))
   clear hput HB6 HY6 HZ6 HO6
   refine hJ.out _ _ (ky4 HY7.out HB7.out) (fun hHeld2 => ?_)
   clear hJ J hHeld1
   try simp only [Act.put, sQ]
   refine wpAnyH_ready (rs := [3]) (by kernel_rfl) (by simp) ?_
   refine AllReadyH.cons rfl (fun J hJ => ?_) AllReadyH.nil
   refine storeO_any rfl rfl _ _ _ rfl rfl (w.heap.size + 2) 2 0 0 z rfl rfl HO7.out ?_
   intro w9 hput
   have HB9 := hq (hput.2.2.2 _ _ (by omega) HB7.out)
   have HY9 := hq (hput.far HY7.out (by omega))
   have zz := box5_cells (hput.far HZ7.out (by omega))
   have yy := box4_cells hput.1
   clear hput HB7 HY7 HZ7 HO7
   refine hJ.out _ _ (ky4 HY9.out HB9.out) (fun hHeld3 => ?_)
   clear hJ J hHeld2
   try simp only [Act.put, sQ]
   refine tkQ 4 ?_ rfl ?_ ?_
   rotate_left
   · intro w_ hSw; (try dsimp only at hSw); go_simp <;> with_reducible rfl
   try simp only [Act.put, sQ]
   refine wpAnyH_done (by kernel_rfl) ?_ _
   clear hHeld3
   go_wp2
   refine bodyPost_ret (v := .tuple #[.agg #[.int .i64 1, .bool false, .int .i64 0, .int .i64 0, .string ⟨#[]⟩], .agg #[.int .i64 2, .int .i64 0, .int .i64 0, .int .i64 z], .bool true]) (by simp only [results, Tryz.results102]; simp [go_sem, zz, yy]) rfl ⟨rfl, HB9.out⟩
theorem aqSpWts {p : Prop} (h : p) : Hid p := h
theorem lessS (a b z : Int) (hz : min a b = z) (w : World) : Calls Tryz.prog 108 #[.int .i64 a, .int .i64 b] w fun e w' => e = .returned (.int .i64 z) ∧ w' = w := by
 by_cases h : a < b
 ·
  obtain rfl : a = z := by omega
  clear hz
  go_enter Tryz.func108, Tryz.ntmps108
  go_wp2
  go_ret
  exact ⟨rfl, rfl⟩
 ·
  obtain rfl : b = z := by omega
  clear hz
  go_enter Tryz.func108, Tryz.ntmps108
  go_wp2
  go_ret
  exact ⟨rfl, rfl⟩
theorem wantsS_no (s n d r l b g k : Int) (hp : ¬ Pm.ok ⟨s, n, d, r, l, b, g, k⟩) (w : World) : Calls Tryz.prog 55 #[PV s n d r l b g k] w fun e w' => e = .returned (.int .i64 (Pm.wants ⟨s, n, d, r, l, b, g, k⟩)) ∧ Below w.heap.size w w' := by
 have HT : Hid (Pm.wants ⟨s, n, d, r, l, b, g, k⟩ = 0) := by show _ = _; unfold Pm.wants; rw [ok_no hp]; simp
 have KP : Hid (∀ w, Calls Tryz.prog 94 #[PV s n d r l b g k] w fun e w' => e = .returned (.bool false) ∧ Below w.heap.size w w') := fun w => pumpokS ⟨s, n, d, r, l, b, g, k⟩ false ⟨fun h => (by cases h), fun h => absurd h hp⟩ w
 clear hp
 have HB0 : Hid (Below w.heap.size w (w.alloc (PB s n d r l b g k))) := alP _ _
 have HP0 : Hid ((w.alloc (PB s n d r l b g k)).heap[w.heap.size]? = some (PB s n d r l b g k)) := heap_new w _
 have p0 := box8_cells HP0.out
 go_enter Tryz.func55, Tryz.ntmps55
 go_wp2_with fail
 refine Calls.mono (KP.out _) ?_
 rintro e w1 ⟨rfl, hb1⟩
 have HB1 := bq HB0 hb1
 have HP1 := rq HP0 hb1
 have p1 := box8_cells HP1.out
 clear hb1 HB0 HP0 p0
 go_wp2
 go_ret
 exact ⟨by rw [HT.out]; rfl, HB1.out⟩
theorem wantsS_0 (n d r l b g k : Int) (hp : Pm.ok ⟨0, n, d, r, l, b, g, k⟩) (w : World) : Calls Tryz.prog 55 #[PV 0 n d r l b g k] w fun e w' => e = .returned (.int .i64 (Pm.wants ⟨0, n, d, r, l, b, g, k⟩)) ∧ Below w.heap.size w w' := by
 have HT : Hid (Pm.wants ⟨0, n, d, r, l, b, g, k⟩ = 0) := by show _ = _; unfold Pm.wants; simp
 have KP : Hid (∀ w, Calls Tryz.prog 94 #[PV 0 n d r l b g k] w fun e w' => e = .returned (.bool true) ∧ Below w.heap.size w w') := fun w => pumpokS ⟨0, n, d, r, l, b, g, k⟩ true ⟨fun _ => hp, fun _ => rfl⟩ w
 clear hp
 have HB0 : Hid (Below w.heap.size w (w.alloc (PB 0 n d r l b g k))) := alP _ _
 have HP0 : Hid ((w.alloc (PB 0 n d r l b g k)).heap[w.heap.size]? = some (PB 0 n d r l b g k)) := heap_new w _
 have p0 := box8_cells HP0.out
 go_enter Tryz.func55, Tryz.ntmps55
 go_wp2_with fail
 refine Calls.mono (KP.out _) ?_
 rintro e w1 ⟨rfl, hb1⟩
 have HB1 := bq HB0 hb1
 have HP1 := rq HP0 hb1
 have p1 := box8_cells HP1.out
 clear hb1 HB0 HP0 p0
 go_wp2
 go_ret
 exact ⟨by rw [HT.out]; rfl, HB1.out⟩
theorem wantsS_3 (n d r l b g k : Int) (hp : Pm.ok ⟨3, n, d, r, l, b, g, k⟩) (w : World) : Calls Tryz.prog 55 #[PV 3 n d r l b g k] w fun e w' => e = .returned (.int .i64 (Pm.wants ⟨3, n, d, r, l, b, g, k⟩)) ∧ Below w.heap.size w w' := by
 have HT : Hid (Pm.wants ⟨3, n, d, r, l, b, g, k⟩ = 0) := by show _ = _; unfold Pm.wants; simp
 have KP : Hid (∀ w, Calls Tryz.prog 94 #[PV 3 n d r l b g k] w fun e w' => e = .returned (.bool true) ∧ Below w.heap.size w w') := fun w => pumpokS ⟨3, n, d, r, l, b, g, k⟩ true ⟨fun _ => hp, fun _ => rfl⟩ w
 clear hp
 have HB0 : Hid (Below w.heap.size w (w.alloc (PB 3 n d r l b g k))) := alP _ _
 have HP0 : Hid ((w.alloc (PB 3 n d r l b g k)).heap[w.heap.size]? = some (PB 3 n d r l b g k)) := heap_new w _
 have p0 := box8_cells HP0.out
 go_enter Tryz.func55, Tryz.ntmps55
 go_wp2_with fail
 refine Calls.mono (KP.out _) ?_
 rintro e w1 ⟨rfl, hb1⟩
 have HB1 := bq HB0 hb1
 have HP1 := rq HP0 hb1
 have p1 := box8_cells HP1.out
 clear hb1 HB0 HP0 p0
 go_wp2
 go_ret
 exact ⟨by rw [HT.out]; rfl, HB1.out⟩
theorem wantsS_1 (n d r l b g k : Int) (hp : Pm.ok ⟨1, n, d, r, l, b, g, k⟩) (w : World) : Calls Tryz.prog 55 #[PV 1 n d r l b g k] w fun e w' => e = .returned (.int .i64 (Pm.wants ⟨1, n, d, r, l, b, g, k⟩)) ∧ Below w.heap.size w w' := by
 obtain ⟨y, hy⟩ : ∃ y, (r + n) / d = y := ⟨_, rfl⟩
 have hrt := rate_bd hp
 unfold Pm.rate at hrt
 dsimp only at hrt
 rw [hy] at hrt
 obtain ⟨y0, y1⟩ := hrt
 have hpb : (0 : Int) ≤ b ∧ b ≤ 100 := hp.2.2.2.2.2.1
 have hpl : (0 : Int) ≤ l ∧ l ≤ 5000 := hp.2.2.2.1
 obtain ⟨x, hx⟩ : ∃ x, min y l = x := ⟨_, rfl⟩
 obtain ⟨q, hq⟩ : ∃ q, min b 3 = q := ⟨_, rfl⟩
 have HX := aqSpWts hx
 have HQ := aqSpWts hq
 have hrr : ratR n d r := hp.2.1
 have KR : Hid (∀ w, Calls Tryz.prog 110 #[.agg #[.int .i64 n, .int .i64 d, .int .i64 r]] w fun e w' => e = .returned (.tuple #[.agg #[.int .i64 n, .int .i64 d, .int .i64 ((r + n) % d)], .int .i64 y]) ∧ Below w.heap.size w w') := fun w => by
  have h := stepRS n d r w
  rw [show stepR n d r = (r + n) % d from if_pos hrr, show stepO n d r = y from (if_pos hrr).trans hy] at h
  exact h
 have HT : Hid (Pm.wants ⟨1, n, d, r, l, b, g, k⟩ = x + q) := by
  show _ = _
  unfold Pm.wants Pm.base Pm.rate
  rw [ok_yes hp]
  simp [hy, hx, hq]
 have e1 : IntKind.i64.wrap (x + q) = x + q := wrap_in (by omega) (by omega)
 have KP : Hid (∀ w, Calls Tryz.prog 94 #[PV 1 n d r l b g k] w fun e w' => e = .returned (.bool true) ∧ Below w.heap.size w w') := fun w => pumpokS ⟨1, n, d, r, l, b, g, k⟩ true ⟨fun _ => hp, fun _ => rfl⟩ w
 clear hp hrr hy hx hq hpb hpl y0 y1
 have HB0 : Hid (Below w.heap.size w (w.alloc (PB 1 n d r l b g k))) := alP _ _
 have HP0 : Hid ((w.alloc (PB 1 n d r l b g k)).heap[w.heap.size]? = some (PB 1 n d r l b g k)) := heap_new w _
 have p0 := box8_cells HP0.out
 go_enter Tryz.func55, Tryz.ntmps55
 go_wp2_with fail
 refine Calls.mono (KP.out _) ?_
 rintro e w1 ⟨rfl, hb1⟩
 have HB1 := bq HB0 hb1
 have HP1 := rq HP0 hb1
 have p1 := box8_cells HP1.out
 clear hb1 HB0 HP0 p0
 go_wp2_with fail
 refine Calls.mono (KR.out _) ?_
 rintro e w2 ⟨rfl, hb2⟩
 obtain ⟨r', hr'⟩ : ∃ z, (r + n) % d = z := ⟨_, rfl⟩
 rw [hr']
 have HB2 : Hid (Below w.heap.size w (w2.alloc (.cells #[.int .i64 n, .int .i64 d, .int .i64 r'] 27))) := bel_on (Nat.le_refl _) (bel_on (Nat.le_refl _) HB1.out hb2) (alP _ _)
 have HP2 : Hid ((w2.alloc (.cells #[.int .i64 n, .int .i64 d, .int .i64 r'] 27)).heap[w.heap.size]? = some (PB 1 n d r l b g k)) := row_on (row_on HP1.out hb2) (alP _ _)
 have p2 := box8_cells HP2.out
 clear hb2 HB1 HP1 p1 hr' KR KP
 go_wp2_with fail
 refine (lessS y l x HX.out _).mono ?_
 rintro e wz ⟨rfl, rfl⟩
 go_wp2_with fail
 refine (lessS b 3 q HQ.out _).mono ?_
 rintro e wz ⟨rfl, rfl⟩
 go_wp2
 go_ret
 exact ⟨by rw [HT.out]; rfl, HB2.out⟩
theorem wantsS_2 (n d r l b g k : Int) (hp : Pm.ok ⟨2, n, d, r, l, b, g, k⟩) (w : World) : Calls Tryz.prog 55 #[PV 2 n d r l b g k] w fun e w' => e = .returned (.int .i64 (Pm.wants ⟨2, n, d, r, l, b, g, k⟩)) ∧ Below w.heap.size w w' := by
 obtain ⟨y, hy⟩ : ∃ y, (r + n) / d = y := ⟨_, rfl⟩
 have hrt := rate_bd hp
 unfold Pm.rate at hrt
 dsimp only at hrt
 rw [hy] at hrt
 obtain ⟨y0, y1⟩ := hrt
 have hpb : (0 : Int) ≤ b ∧ b ≤ 100 := hp.2.2.2.2.2.1
 have hpl : (0 : Int) ≤ l ∧ l ≤ 5000 := hp.2.2.2.1
 obtain ⟨x, hx⟩ : ∃ x, min y l = x := ⟨_, rfl⟩
 obtain ⟨q, hq⟩ : ∃ q, min b 3 = q := ⟨_, rfl⟩
 have HX := aqSpWts hx
 have HQ := aqSpWts hq
 have hrr : ratR n d r := hp.2.1
 have KR : Hid (∀ w, Calls Tryz.prog 110 #[.agg #[.int .i64 n, .int .i64 d, .int .i64 r]] w fun e w' => e = .returned (.tuple #[.agg #[.int .i64 n, .int .i64 d, .int .i64 ((r + n) % d)], .int .i64 y]) ∧ Below w.heap.size w w') := fun w => by
  have h := stepRS n d r w
  rw [show stepR n d r = (r + n) % d from if_pos hrr, show stepO n d r = y from (if_pos hrr).trans hy] at h
  exact h
 have HT : Hid (Pm.wants ⟨2, n, d, r, l, b, g, k⟩ = y + q) := by
  show _ = _
  unfold Pm.wants Pm.base Pm.rate
  rw [ok_yes hp]
  simp [hy, hx, hq]
 have e1 : IntKind.i64.wrap (y + q) = y + q := wrap_in (by omega) (by omega)
 have KP : Hid (∀ w, Calls Tryz.prog 94 #[PV 2 n d r l b g k] w fun e w' => e = .returned (.bool true) ∧ Below w.heap.size w w') := fun w => pumpokS ⟨2, n, d, r, l, b, g, k⟩ true ⟨fun _ => hp, fun _ => rfl⟩ w
 clear hp hrr hy hx hq hpb hpl y0 y1
 have HB0 : Hid (Below w.heap.size w (w.alloc (PB 2 n d r l b g k))) := alP _ _
 have HP0 : Hid ((w.alloc (PB 2 n d r l b g k)).heap[w.heap.size]? = some (PB 2 n d r l b g k)) := heap_new w _
 have p0 := box8_cells HP0.out
 go_enter Tryz.func55, Tryz.ntmps55
 go_wp2_with fail
 refine Calls.mono (KP.out _) ?_
 rintro e w1 ⟨rfl, hb1⟩
 have HB1 := bq HB0 hb1
 have HP1 := rq HP0 hb1
 have p1 := box8_cells HP1.out
 clear hb1 HB0 HP0 p0
 go_wp2_with fail
 refine Calls.mono (KR.out _) ?_
 rintro e w2 ⟨rfl, hb2⟩
 obtain ⟨r', hr'⟩ : ∃ z, (r + n) % d = z := ⟨_, rfl⟩
 rw [hr']
 have HB2 : Hid (Below w.heap.size w (w2.alloc (.cells #[.int .i64 n, .int .i64 d, .int .i64 r'] 27))) := bel_on (Nat.le_refl _) (bel_on (Nat.le_refl _) HB1.out hb2) (alP _ _)
 have HP2 : Hid ((w2.alloc (.cells #[.int .i64 n, .int .i64 d, .int .i64 r'] 27)).heap[w.heap.size]? = some (PB 2 n d r l b g k)) := row_on (row_on HP1.out hb2) (alP _ _)
 have p2 := box8_cells HP2.out
 clear hb2 HB1 HP1 p1 hr' KR KP
 go_wp2_with fail
 refine (lessS b 3 q HQ.out _).mono ?_
 rintro e wz ⟨rfl, rfl⟩
 go_wp2
 go_ret
 exact ⟨by rw [HT.out]; rfl, HB2.out⟩
theorem wantsS (p : Pm) (w : World) : Calls Tryz.prog 55 #[p.V] w fun e w' => e = .returned (.int .i64 p.wants) ∧ Below w.heap.size w w' := by
 obtain ⟨s, n, d, r, l, b, g, k⟩ := p
 by_cases hp : Pm.ok ⟨s, n, d, r, l, b, g, k⟩
 ·
  have hs : s = 0 ∨ s = 1 ∨ s = 2 ∨ s = 3 := by have := hp.1; dsimp only at this; omega
  rcases hs with rfl | rfl | rfl | rfl
  · exact wantsS_0 n d r l b g k hp w
  · exact wantsS_1 n d r l b g k hp w
  · exact wantsS_2 n d r l b g k hp w
  · exact wantsS_3 n d r l b g k hp w
 · exact wantsS_no s n d r l b g k hp w
end Go.Proofs.YtfhhnelffldggaaGreatDoor
