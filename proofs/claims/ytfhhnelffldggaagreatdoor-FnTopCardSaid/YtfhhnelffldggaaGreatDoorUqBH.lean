/-
  Menus of the program: pressed.
-/
import Derived.Test.YtfhhnelffldggaaGreatDoorUqBG
import Derived.Laws.Runes
import Derived.Test.YtfhhnelffldggaaGreatDoorUqAZ
set_option maxRecDepth 100000
set_option maxHeartbeats 16000000
namespace Go.Proofs.YtfhhnelffldggaaGreatDoor
open Go.RowKit Go.PlainAid
set_option linter.unusedVariables false
set_option linter.unusedSimpArgs false
theorem key_text {key : Int} {x : UInt8} (h : 48 ≤ key ∧ key ≤ 57) (hx : (x.toNat : Int) = key) (w : World) : (convert 21 9 (.int .i32 key)).run Tryz.prog w = .ok (.string (⟨#[x]⟩ : ByteArray)) w := by
 rw [run_convert_int_string w _ _ _ _ (by rw [Tryz.underlying21]; rfl) Tryz.underlying9]
 have e : Utf8.encode key = (⟨#[x]⟩ : ByteArray) := by
  have hv : Utf8.valid key = true := by simp [Utf8.valid]; omega
  have hn : key.toNat < 128 := by omega
  have hb : UInt8.ofNat key.toNat = x := by rw [← hx]; simp
  unfold Utf8.encode
  simp only [hv, if_true, hn, hb]
 rw [e]
theorem press_far {a : Int} {b : Bool} {n d : Int} {s : List UInt8} (hk : okM ⟨a, b, n, d, s⟩ = true) (h1 : a ≠ 1) (key : Int) : pressM ⟨a, b, n, d, s⟩ key = (if 48 ≤ key ∧ key ≤ 57 then (if s.length < 4 then noP ⟨a, b, n, d, s ++ [UInt8.ofNat key.toNat]⟩ else noP ⟨a, b, n, d, s⟩) else if key = 99 then noP newM else if key ≠ 10 then noP ⟨a, b, n, d, s⟩ else entM a b n d (numF s)) := by
 have ha := ((okM_iff _).1 hk).1.1
 unfold pressM
 rw [if_neg (by rw [hk]; decide), if_neg h1]
 by_cases a2 : a = 2
 · simp [a2, entM]
 by_cases a3 : a = 3
 · simp [a3, entM]
 unfold entM endM
 simp only [if_neg a2, if_neg a3]
theorem pressedI (m : Mn) (hm : GdM m) (key : Int) (r : Pr) (hr : pressM m key = r) (w : World) : Calls Tryz.prog 166 #[mnV m, .int .i32 key] w fun e w' => e = .returned (.tuple #[mnV r.m, ordV r.k r.n r.d r.v, .bool r.t]) ∧ Below w.heap.size w w' := by
 by_cases a1 : m.a = 1
 ·
  obtain rfl := top_new hm.1 a1
  have HR : Hid (topM newM key = r) := by show _ = _; rw [← hr]; unfold pressM; rw [if_neg (by decide), if_pos (show newM.a = 1 from rfl)]
  obtain ⟨h1, h2, h3, h4, h5⟩ := box3m w (.cells #[.int .i64 1, .bool false, .int .i64 0, .int .i64 0, .string ⟨#[]⟩] 34) (.cells #[.int .i64 0, .bool false, .int .i64 0, .int .i64 0, .string ⟨#[]⟩] 34) (oB 0 0 0 0)
  have HP0 := hq h1
  have HZ0 := hq h2
  have HO0 := hq h3
  have HB0 := hq h4
  have p0 := box5_cells h1
  clear h1 h2 h3 h4 h5 hr hm a1
  obtain ⟨⟨a2, b2, n2, d2, s2⟩, k3, n3, d3, v3, t3⟩ := r
  unfold mnV ordV newM
  dsimp only
  go_enter Tryz.func166, Tryz.ntmps166
  go_wp2_with fail
  refine (chosenI key _ HR.out _).mono ?_
  rintro e w2 ⟨rfl, hb1⟩
  have HB2 := bq HB0 hb1
  have HP2 := rq HP0 hb1
  have HZ2 := rq HZ0 hb1
  have HO2 := rq HO0 hb1
  have p2 := box5_cells HP2.out
  clear hb1 HB0 HP0 HZ0 HO0 p0
  unfold mnV ordV
  dsimp only
  go_wp2_with (refine listStoreM rfl rfl _ _ _ rfl rfl (w.heap.size + 1) (a2) (b2) (n2) (d2) (⟨s2.toArray⟩) rfl rfl HZ2.out ?_)
  intro w8 hput
  have HB8 := hq (hput.2.2.2 _ _ (Nat.le_succ _) HB2.out)
  have HO8 := hq (hput.far HO2.out (by omega))
  have HZ8 := hq hput.1
  clear hput
  go_wp2_with (refine listStoreO rfl rfl _ _ _ rfl rfl (w.heap.size + 2) (k3) (n3) (d3) (v3) rfl rfl HO8.out ?_)
  intro w9 hput
  have HB9 := hq (hput.2.2.2 _ _ (by omega) HB8.out)
  have zz := box5_cells (hput.far HZ8.out (by omega))
  have yy := box4_cells hput.1
  clear hput HB8 HO8 HZ8
  go_wp2
  refine bodyPost_ret (v := .tuple #[.agg #[.int .i64 a2, .bool b2, .int .i64 n2, .int .i64 d2, .string ⟨s2.toArray⟩], .agg #[.int .i64 k3, .int .i64 n3, .int .i64 d3, .int .i64 v3], .bool t3]) (by simp only [results, Tryz.results166]; simp [go_sem, zz, yy]) rfl ⟨rfl, HB9.out⟩
 obtain ⟨a, b, n, d, s⟩ := m
 obtain ⟨S, hS⟩ : ∃ S : ByteArray, (⟨s.toArray⟩ : ByteArray) = S := ⟨_, rfl⟩
 have HOF := (okM_iff _).1 hm.1
 have HFG : Hid (∀ x ∈ s, figB x = true) := HOF.2.1
 have hlen : s.length ≤ 4 := HOF.1.2.2.2
 have ha4 : 1 ≤ a ∧ a ≤ 4 := HOF.1.1
 dsimp only at a1
 have HG : Hid (b = true → n = 0 ∧ d = 0) := fun h => good_b hm.2.1 h
 have HR1 : Hid ((if 48 ≤ key ∧ key ≤ 57 then (if s.length < 4 then noP ⟨a, b, n, d, s ++ [UInt8.ofNat key.toNat]⟩ else noP ⟨a, b, n, d, s⟩) else if key = 99 then noP newM else if key ≠ 10 then noP ⟨a, b, n, d, s⟩ else entM a b n d (numF s)) = r) := by show _ = _; rw [← press_far hm.1 a1, hr]
 obtain ⟨h1, h2, h3, h4, h5⟩ := box3m w (.cells #[.int .i64 a, .bool b, .int .i64 n, .int .i64 d, .string S] 34) (.cells #[.int .i64 0, .bool false, .int .i64 0, .int .i64 0, .string ⟨#[]⟩] 34) (oB 0 0 0 0)
 have HP0 := hq h1
 have HZ0 := hq h2
 have HO0 := hq h3
 have HB0 := hq h4
 have p0 := box5_cells h1
 have HS := hq hS
 have hsz := txt_size hS
 unfold mnV ordV
 dsimp only
 rw [hS]
 clear h1 h2 h3 h4 h5 hr HOF hm hS
 go_enter Tryz.func166, Tryz.ntmps166
 have q1 : (a == 1) = false := by simpa using a1
 by_cases k10 : key = 10
 ·
  subst k10
  have HE : Hid (entM a b n d (numF s) = r) := by have h := HR1.out; rw [if_neg (by decide), if_neg (by decide), if_neg (by decide)] at h; exact h
  obtain ⟨⟨a2, b2, n2, d2, s2⟩, k3, n3, d3, v3, t3⟩ := r
  obtain ⟨z, hz⟩ : ∃ z, numF s = z := ⟨_, rfl⟩
  rw [hz] at HE
  have HZF := hq hz
  clear HR1 hz
  (try dsimp only)
  go_wp2_with fail
  refine (enteredI a b n d s S HS.out z HZF.out HFG.out hlen ⟨by omega, ha4.2⟩ HG.out _ HE.out _).mono ?_
  rintro e w2 ⟨rfl, hb1⟩
  have HB2 := bq HB0 hb1
  have HP2 := rq HP0 hb1
  have HZ2 := rq HZ0 hb1
  have HO2 := rq HO0 hb1
  have p2 := box5_cells HP2.out
  clear hb1 HB0 HP0 HZ0 HO0 p0
  clear HE HZF HG HFG HS
  unfold mnV ordV
  dsimp only
  go_wp2_with (refine listStoreM rfl rfl _ _ _ rfl rfl (w.heap.size + 1) (a2) (b2) (n2) (d2) (⟨s2.toArray⟩) rfl rfl HZ2.out ?_)
  intro w8 hput
  have HB8 := hq (hput.2.2.2 _ _ (Nat.le_succ _) HB2.out)
  have HO8 := hq (hput.far HO2.out (by omega))
  have HZ8 := hq hput.1
  clear hput
  go_wp2_with (refine listStoreO rfl rfl _ _ _ rfl rfl (w.heap.size + 2) (k3) (n3) (d3) (v3) rfl rfl HO8.out ?_)
  intro w9 hput
  have HB9 := hq (hput.2.2.2 _ _ (by omega) HB8.out)
  have zz := box5_cells (hput.far HZ8.out (by omega))
  have yy := box4_cells hput.1
  clear hput HB8 HO8 HZ8
  go_wp2
  refine bodyPost_ret (v := .tuple #[.agg #[.int .i64 a2, .bool b2, .int .i64 n2, .int .i64 d2, .string ⟨s2.toArray⟩], .agg #[.int .i64 k3, .int .i64 n3, .int .i64 d3, .int .i64 v3], .bool t3]) (by simp only [results, Tryz.results166]; simp [go_sem, zz, yy]) rfl ⟨rfl, HB9.out⟩
 have q10 : (key == 10) = false := by simpa using k10
 by_cases k99 : key = 99
 ·
  obtain rfl : noP newM = r := by have h := HR1.out; rw [if_neg (by omega), if_pos k99] at h; exact h
  clear HR1 HG HFG HS
  subst k99
  (try dsimp only [noP, newM])
  go_wp2_with fail
  refine (menunewI _).mono ?_
  rintro e w2 ⟨rfl, hb1⟩
  unfold mnV newM
  dsimp only
  have HB2 := bq HB0 hb1
  have HP2 := rq HP0 hb1
  have HZ2 := rq HZ0 hb1
  have HO2 := rq HO0 hb1
  have p2 := box5_cells HP2.out
  clear hb1 HB0 HP0 HZ0 HO0 p0
  go_wp2_with (refine listStoreM rfl rfl _ _ _ rfl rfl (w.heap.size + 1) (1) (false) (0) (0) (⟨#[]⟩) rfl rfl HZ2.out ?_)
  intro w8 hput
  have HB8 := hq (hput.2.2.2 _ _ (Nat.le_succ _) HB2.out)
  have HO8 := hq (hput.far HO2.out (by omega))
  have HZ8 := hq hput.1
  clear hput
  go_wp2_with (refine listStoreO rfl rfl _ _ _ rfl rfl (w.heap.size + 2) (0) (0) (0) (0) rfl rfl HO8.out ?_)
  intro w9 hput
  have HB9 := hq (hput.2.2.2 _ _ (by omega) HB8.out)
  have zz := box5_cells (hput.far HZ8.out (by omega))
  have yy := box4_cells hput.1
  clear hput HB8 HO8 HZ8
  go_wp2
  refine bodyPost_ret (v := .tuple #[.agg #[.int .i64 1, .bool false, .int .i64 0, .int .i64 0, .string ⟨#[]⟩], .agg #[.int .i64 0, .int .i64 0, .int .i64 0, .int .i64 0], .bool false]) (by simp only [results, Tryz.results166]; simp [go_sem, zz, yy]) rfl ⟨rfl, HB9.out⟩
 have q99 : (key == 99) = false := by simpa using k99
 by_cases hk : 48 ≤ key ∧ key ≤ 57
 ·
  have HD : Hid (decide (48 ≤ key ∧ key ≤ 57) = true) := decide_eq_true hk
  by_cases h4 : S.size < 4
  ·
   obtain ⟨x, hx, hx2⟩ := key_byte hk
   obtain rfl : noP ⟨a, b, n, d, s ++ [x]⟩ = r := by have h := HR1.out; rw [if_pos hk, if_pos (by omega), hx2] at h; exact h
   have HCV : Hid (∀ w : World, (convert 21 9 (.int .i32 key)).run Tryz.prog w = .ok (.string (⟨#[x]⟩ : ByteArray)) w) := key_text hk hx
   have HSX : Hid ((⟨(s ++ [x]).toArray⟩ : ByteArray) = S ++ (⟨#[x]⟩ : ByteArray)) := by show _ = _; rw [← HS.out, txt_one]
   have h4' : (S.size : Int) < 4 := by omega
   have hsS : S.size ≤ 4 := by omega
   clear HR1 HG HFG HS hx hx2 hk
   (try dsimp only [noP])
   go_wp2_with fail
   refine (figI key true HD.out _).mono ?_
   rintro e w1 ⟨rfl, hw⟩
   subst hw
   have hone := HCV.out
   clear HD
   go_upto_region 8 with fail
   go_wp2_with (refine listStoreT rfl rfl _ _ _ rfl rfl w.heap.size 4 (S ++ (⟨#[x]⟩ : ByteArray)) rfl rfl HP0.out (by simp) ?_)
   intro w3 hput
   clear hone HCV
   generalize hSX : S ++ (⟨#[x]⟩ : ByteArray) = SX at *
   have HB3 := hq (hput.2.2.2 _ _ (Nat.le_refl _) HB0.out)
   have HP3 := hq hput.1
   have HZ3 := hq (hput.far HZ0.out (by omega))
   have HO3 := hq (hput.far HO0.out (by omega))
   have p3 := box5_cells HP3.out
   clear hput HB0 HP0 HZ0 HO0 p0
   go_upto_region 9 with fail
   go_wp2_with (refine listStoreM rfl rfl _ _ _ rfl rfl (w.heap.size + 1) (a) (b) (n) (d) (SX) rfl rfl HZ3.out ?_)
   intro w8 hput
   have HB8 := hq (hput.2.2.2 _ _ (Nat.le_succ _) HB3.out)
   have HO8 := hq (hput.far HO3.out (by omega))
   have HZ8 := hq hput.1
   clear hput
   go_wp2_with (refine listStoreO rfl rfl _ _ _ rfl rfl (w.heap.size + 2) (0) (0) (0) (0) rfl rfl HO8.out ?_)
   intro w9 hput
   have HB9 := hq (hput.2.2.2 _ _ (by omega) HB8.out)
   have zz := box5_cells (hput.far HZ8.out (by omega))
   have yy := box4_cells hput.1
   clear hput HB8 HO8 HZ8
   go_wp2
   refine bodyPost_ret (v := .tuple #[.agg #[.int .i64 a, .bool b, .int .i64 n, .int .i64 d, .string SX], .agg #[.int .i64 0, .int .i64 0, .int .i64 0, .int .i64 0], .bool false]) (by simp only [results, Tryz.results166]; simp [go_sem, zz, yy]) rfl ⟨(by rw [← HSX.out] <;> rfl), HB9.out⟩
  ·
   obtain rfl : noP ⟨a, b, n, d, s⟩ = r := by have h := HR1.out; rw [if_pos hk, if_neg (by omega)] at h; exact h
   have h4' : ¬ (S.size : Int) < 4 := by omega
   clear HR1 HG HFG hk
   (try dsimp only [noP])
   go_wp2_with fail
   refine (figI key true HD.out _).mono ?_
   rintro e w1 ⟨rfl, hw⟩
   subst hw
   clear HD
   go_upto_region 9 with fail
   go_wp2_with (refine listStoreM rfl rfl _ _ _ rfl rfl (w.heap.size + 1) (a) (b) (n) (d) (S) rfl rfl HZ0.out ?_)
   intro w8 hput
   have HB8 := hq (hput.2.2.2 _ _ (Nat.le_succ _) HB0.out)
   have HO8 := hq (hput.far HO0.out (by omega))
   have HZ8 := hq hput.1
   clear hput
   go_wp2_with (refine listStoreO rfl rfl _ _ _ rfl rfl (w.heap.size + 2) (0) (0) (0) (0) rfl rfl HO8.out ?_)
   intro w9 hput
   have HB9 := hq (hput.2.2.2 _ _ (by omega) HB8.out)
   have zz := box5_cells (hput.far HZ8.out (by omega))
   have yy := box4_cells hput.1
   clear hput HB8 HO8 HZ8
   go_wp2
   refine bodyPost_ret (v := .tuple #[.agg #[.int .i64 a, .bool b, .int .i64 n, .int .i64 d, .string S], .agg #[.int .i64 0, .int .i64 0, .int .i64 0, .int .i64 0], .bool false]) (by simp only [results, Tryz.results166]; simp [go_sem, zz, yy]) rfl ⟨(by rw [← HS.out] <;> rfl), HB9.out⟩
 ·
  have HD : Hid (decide (48 ≤ key ∧ key ≤ 57) = false) := decide_eq_false hk
  obtain rfl : noP ⟨a, b, n, d, s⟩ = r := by have h := HR1.out; rw [if_neg hk, if_neg k99, if_pos k10] at h; exact h
  clear HR1 HG HFG hk
  (try dsimp only [noP])
  go_wp2_with fail
  refine (figI key false HD.out _).mono ?_
  rintro e w1 ⟨rfl, hw⟩
  subst hw
  clear HD
  go_upto_region 9 with fail
  go_wp2_with (refine listStoreM rfl rfl _ _ _ rfl rfl (w.heap.size + 1) (a) (b) (n) (d) (S) rfl rfl HZ0.out ?_)
  intro w8 hput
  have HB8 := hq (hput.2.2.2 _ _ (Nat.le_succ _) HB0.out)
  have HO8 := hq (hput.far HO0.out (by omega))
  have HZ8 := hq hput.1
  clear hput
  go_wp2_with (refine listStoreO rfl rfl _ _ _ rfl rfl (w.heap.size + 2) (0) (0) (0) (0) rfl rfl HO8.out ?_)
  intro w9 hput
  have HB9 := hq (hput.2.2.2 _ _ (by omega) HB8.out)
  have zz := box5_cells (hput.far HZ8.out (by omega))
  have yy := box4_cells hput.1
  clear hput HB8 HO8 HZ8
  go_wp2
  refine bodyPost_ret (v := .tuple #[.agg #[.int .i64 a, .bool b, .int .i64 n, .int .i64 d, .string S], .agg #[.int .i64 0, .int .i64 0, .int .i64 0, .int .i64 0], .bool false]) (by simp only [results, Tryz.results166]; simp [go_sem, zz, yy]) rfl ⟨(by rw [← HS.out] <;> rfl), HB9.out⟩
theorem aqMnI {p : Prop} (h : p) : Hid p := h
structure PJ (w w' : World) (M : Mn) (A : Option Addr) (n c : Nat) (l : List Od4) (I : Nat) (K : ByteArray) (pos : Nat) : Prop where
 p : w'.heap[w.heap.size]? = some (.cells #[.int .i64 M.a, .bool M.b, .int .i64 M.n, .int .i64 M.d, .string ⟨M.s.toArray⟩] 34)
 z : w'.heap[w.heap.size + 1]? = some (.cells #[.int .i64 0, .bool false, .int .i64 0, .int .i64 0, .string ⟨#[]⟩] 34)
 o : OwnA w' (w.heap.size + 2) A n c l
 b : Below w.heap.size w w'
 it : w'.heap[I]? = some (.stringIter K pos)
theorem PJ.on {w w' w2 : World} {M : Mn} {A : Option Addr} {n c I pos : Nat} {l : List Od4} {K : ByteArray} (h : PJ w w' M A n c l I K pos) (hb : Below w'.heap.size w' w2) : PJ w w2 M A n c l I K pos :=
 ⟨row_on h.p hb, row_on h.z hb, h.o.on hb, bel_on (Nat.le_refl _) h.b hb, row_on h.it hb⟩
theorem PJ.next {w w' : World} {M : Mn} {A : Option Addr} {n c I pos : Nat} {l : List Od4} {K : ByteArray} (h : PJ w w' M A n c l I K pos) (hI : w.heap.size + 1 < I) (pos' : Nat) : PJ w (w'.iterAt I K pos') M A n c l I K pos' := by
 have ho : ∀ k, k ≠ I → (w'.iterAt I K pos').heap[k]? = w'.heap[k]? := fun k hk => Lib.iterAt_other w' I k K pos' hk
 exact ⟨(ho _ (by omega)).trans h.p, (ho _ (by omega)).trans h.z, h.o.same h.it (fun cur e => by cases e) ho, Lib.below_iterAt h.b (by omega) K pos', Lib.iterAt_heap w' I K pos pos' h.it⟩
theorem PJ.grown {w w' w2 : World} {M : Mn} {A A' : Option Addr} {n c n' c' I pos : Nat} {l l' : List Od4} {K : ByteArray} (h : PJ w w' M A n c l I K pos) (hg : w'.grownBy w2 (Value.slice A n c).ownBlock) (ho : OwnA w2 (w.heap.size + 2) A' n' c' l') : PJ w w2 M A' n' c' l' I K pos :=
 ⟨h.o.far hg h.p (fun cur e => by cases e), h.o.far hg h.z (fun cur e => by cases e), ho, h.b.grown hg h.b.size (fun m hm => by have := own_ge h.o m hm; omega), h.o.far hg h.it (fun cur e => by cases e)⟩
theorem PJ.store {w w' w2 : World} {M M2 : Mn} {A : Option Addr} {n c I pos : Nat} {l : List Od4} {K : ByteArray} (h : PJ w w' M A n c l I K pos) (hI : w.heap.size + 1 < I) (hp : PutM w' w2 w.heap.size (.cells #[.int .i64 M2.a, .bool M2.b, .int .i64 M2.n, .int .i64 M2.d, .string ⟨M2.s.toArray⟩] 34)) : PJ w w2 M2 A n c l I K pos :=
 ⟨hp.1, hp.far h.z (by omega), h.o.put hp h.p, hp.2.2.2 _ _ (Nat.le_refl _) h.b, hp.far h.it (by omega)⟩
theorem al2_kA (w : World) (o p : Obj) : ((w.alloc o).alloc p).heap[w.heap.size + 1]? = some p := by
 have h := heap_new (w.alloc o) p
 simpa using h
theorem pressAllI' (m : Mn) (hg : GdM m) (ks : List UInt8) (K : ByteArray) (hK : (⟨ks.toArray⟩ : ByteArray) = K) (M2 : Mn) (l2 : List Od4) (q : Nat) (hR : allM m ks = (M2, l2)) (hq : l2.length = q) (hl : ks.length ≤ 1048576) (w : World) :
  Calls Tryz.prog 130 #[mnV m, .string K] w fun e w' => ∃ A c, e = .returned (.tuple #[mnV M2, .slice A q c]) ∧ OwnA w' w.heap.size A q c l2 ∧ Below w.heap.size w w' := by
 have hsz := txt_size hK
 have HK := aqMnI hK
 have HR := aqMnI hR
 have HQ := aqMnI hq
 have HG := aqMnI hg
 have HOK : Hid (okM m = true) := hg.1
 have hms : m.s.length ≤ 1048576 := by have := ((okM_iff _).1 hg.1).1.2.2.2; omega
 clear hR hq hK hg
 unfold mnV
 have h1 := heap_new w (.cells #[.int .i64 m.a, .bool m.b, .int .i64 m.n, .int .i64 m.d, .string ⟨m.s.toArray⟩] 34)
 have h2 := heap_new (w.alloc (.cells #[.int .i64 m.a, .bool m.b, .int .i64 m.n, .int .i64 m.d, .string ⟨m.s.toArray⟩] 34)) (.cells #[.int .i64 0, .bool false, .int .i64 0, .int .i64 0, .string ⟨#[]⟩] 34)
 rw [show (w.alloc (.cells #[.int .i64 m.a, .bool m.b, .int .i64 m.n, .int .i64 m.d, .string ⟨m.s.toArray⟩] 34)).heap.size = w.heap.size + 1 by simp] at h2
 have HP0 : Hid (((w.alloc (.cells #[.int .i64 m.a, .bool m.b, .int .i64 m.n, .int .i64 m.d, .string ⟨m.s.toArray⟩] 34)).alloc (.cells #[.int .i64 0, .bool false, .int .i64 0, .int .i64 0, .string ⟨#[]⟩] 34)).heap[w.heap.size]? = some (.cells #[.int .i64 m.a, .bool m.b, .int .i64 m.n, .int .i64 m.d, .string ⟨m.s.toArray⟩] 34)) := row_on h1 (alM _ _)
 have HZ0 := aqMnI h2
 have HB0 : Hid (Below w.heap.size w ((w.alloc (.cells #[.int .i64 m.a, .bool m.b, .int .i64 m.n, .int .i64 m.d, .string ⟨m.s.toArray⟩] 34)).alloc (.cells #[.int .i64 0, .bool false, .int .i64 0, .int .i64 0, .string ⟨#[]⟩] 34))) := bel_on (Nat.le_refl _) (alM _ _) (alM _ _)
 have p0 := box5_cells HP0.out
 clear h1 h2
 go_enter Tryz.func130, Tryz.ntmps130
 go_wp2_with fail
 refine (copyI m hms _).mono ?_
 rintro e w1 ⟨rfl, hb1⟩
 have HB1 := bq HB0 hb1
 have HP1 := rq HP0 hb1
 have HZ1 := rq HZ0 hb1
 clear hb1 HB0 HP0 HZ0 p0
 unfold mnV
 go_wp2_with (refine listStoreM rfl rfl _ _ _ rfl rfl w.heap.size m.a m.b m.n m.d ⟨m.s.toArray⟩ rfl rfl HP1.out ?_)
 intro w2 hput
 have HB2 := aqMnI (hput.2.2.2 _ _ (Nat.le_refl _) HB1.out)
 have HP2 := aqMnI hput.1
 have HZ2 := aqMnI (hput.far HZ1.out (by omega))
 have p2 := box5_cells HP2.out
 clear hput HB1 HP1 HZ1
 go_wp2_with fail
 refine (menuokI m true HOK.out _).mono ?_
 rintro e w3 ⟨rfl, hb1⟩
 have HB3 := bq HB2 hb1
 have HP3 := rq HP2 hb1
 have HZ3 := rq HZ2 hb1
 have hI : w.heap.size + 1 < w3.heap.size := row_lt HZ3.out
 have HPA : Hid (PJ w (w3.alloc (.stringIter K 0)) m none 0 0 [] w3.heap.size K 0) :=
  ⟨row_on HP3.out (alM _ _), row_on HZ3.out (alM _ _), OwnA.nil _ _, bel_on (Nat.le_refl _) HB3.out (alM _ _), heap_new w3 _⟩
 obtain ⟨I, hIe⟩ : ∃ I, w3.heap.size = I := ⟨_, rfl⟩
 clear hb1 HB2 HP2 HZ2 p2 HB3 HP3 HZ3
 go_wp2
 rw [hIe] at HPA hI
 (try rw [hIe])
 clear hIe
 go_loopg [6] K.size (fun gk v wr => ∃ (j n c : Nat) (A : Option Addr) (M : Mn) (l : List Od4), j + gk = K.size ∧ v = .slice A n c ∧ Hid (allM m (ks.take j) = (M, l)) ∧ Hid (PJ w wr M A n c l I K j))
 case atStart => exact ⟨0, 0, 0, none, m, [], by omega, rfl, rfl, HPA⟩
 case round =>
  clear HPA
  obtain ⟨j, n, c, A, M, l, hj, rfl, HM, HPA⟩ := hrel
  by_cases hlt : j < K.size
  ·
   obtain ⟨hw1, hw2, hall⟩ := all_rune HK.out hlt m M l HM.out
   have hr31 := dec_max K j
   have HGM : Hid (GdM M) := GdM.from HM.out HG.out
   have hnx : ∀ ty, (Instr.next (.pointer (some ⟨I, 0, none⟩)) true ty).run Tryz.prog wr = _ := fun ty => Lib.run_next_any_at wr I K j ty HPA.out.it hlt
   have HP1 := HPA.out.next (by omega) (j + (Utf8.decode K j).2)
   generalize (Utf8.decode K j).1 = r at *
   generalize (Utf8.decode K j).2 = d at *
   obtain ⟨w1, hw1e⟩ : ∃ w1, wr.iterAt I K (j + d) = w1 := ⟨_, rfl⟩
   rw [hw1e] at hnx HP1
   have HPA1 : Hid (PJ w w1 M A n c l I K (j + d)) := HP1
   obtain ⟨p, hp⟩ : ∃ p, pressM M (r : Int) = p := ⟨_, rfl⟩
   rw [hp] at hall
   have HPR := aqMnI hp
   have hnl := HPA.out.o.len
   have hnj : l.length ≤ j := by have h := allM_len (ks.take j) m; rw [HM.out] at h; simp at h; omega
   have HM' : Hid (allM m (ks.take (j + d)) = (p.m, if p.t = true then l ++ [(p.k, p.n, p.d, p.v)] else l)) := hall
   have q1 : IntKind.i32.wrap (r : Int) = (r : Int) := w32_in (by omega) (by omega)
   have p0 := box5_cells HPA1.out.p
   clear hp HM hall HP1 HPA hw1e
   go_wp2_with fail
   refine (pressedI M HGM.out (r : Int) p HPR.out _).mono ?_
   rintro e w2 ⟨rfl, hb2⟩
   have HPA2 : Hid (PJ w ((w2.alloc (.cells #[.int .i64 p.m.a, .bool p.m.b, .int .i64 p.m.n, .int .i64 p.m.d, .string ⟨p.m.s.toArray⟩] 34)).alloc (.cells #[.int .i64 p.k, .int .i64 p.n, .int .i64 p.d, .int .i64 p.v] 82)) M A n c l I K (j + d)) := (HPA1.out.on hb2).on (bel_on (Nat.le_refl _) (alM _ _) (alM _ _))
   have HX : Hid (((w2.alloc (.cells #[.int .i64 p.m.a, .bool p.m.b, .int .i64 p.m.n, .int .i64 p.m.d, .string ⟨p.m.s.toArray⟩] 34)).alloc (.cells #[.int .i64 p.k, .int .i64 p.n, .int .i64 p.d, .int .i64 p.v] 82)).heap[w2.heap.size]? = some (.cells #[.int .i64 p.m.a, .bool p.m.b, .int .i64 p.m.n, .int .i64 p.m.d, .string ⟨p.m.s.toArray⟩] 34)) := row_on (heap_new w2 _) (alM _ _)
   have HY : Hid (((w2.alloc (.cells #[.int .i64 p.m.a, .bool p.m.b, .int .i64 p.m.n, .int .i64 p.m.d, .string ⟨p.m.s.toArray⟩] 34)).alloc (.cells #[.int .i64 p.k, .int .i64 p.n, .int .i64 p.d, .int .i64 p.v] 82)).heap[w2.heap.size + 1]? = some (.cells #[.int .i64 p.k, .int .i64 p.n, .int .i64 p.d, .int .i64 p.v] 82)) := al2_kA w2 _ _
   clear hb2 HPA1 HPR p0 hnx q1 HGM
   unfold mnV ordV
   go_upto_region 9 with fail
   generalize (w2.alloc (.cells #[.int .i64 p.m.a, .bool p.m.b, .int .i64 p.m.n, .int .i64 p.m.d, .string ⟨p.m.s.toArray⟩] 34)).alloc (.cells #[.int .i64 p.k, .int .i64 p.n, .int .i64 p.d, .int .i64 p.v] 82) = w3 at *
   generalize w2.heap.size = X at *
   obtain ⟨pm, pk, pn, pd, pv, pt⟩ := p
   dsimp only at *
   cases pt
   ·
    have HM2 : Hid (allM m (ks.take (j + d)) = (pm, l)) := HM'.out
    have x := box5_cells HX.out
    clear HM' HY
    go_upto_region 11 with fail
    go_wp2_with (refine listStoreM rfl rfl _ _ _ rfl rfl w.heap.size pm.a pm.b pm.n pm.d ⟨pm.s.toArray⟩ rfl rfl HPA2.out.p ?_)
    intro w4 hput
    have HPA4 : Hid (PJ w w4 pm A n c l I K (j + d)) := HPA2.out.store hI hput
    clear hput HPA2 HX x
    go_wp2
    go_roundg (gk - d)
    case measure => omega
    case rel => exact ⟨j + d, n, c, A, pm, l, by omega, rfl, HM2, HPA4⟩
   ·
    have HM2 : Hid (allM m (ks.take (j + d)) = (pm, l ++ [(pk, pn, pd, pv)])) := HM'.out
    have y := box4_cells HY.out
    have HPA5 : Hid (PJ w (w3.alloc (.cells #[.int .i64 pk, .int .i64 pn, .int .i64 pd, .int .i64 pv] 82)) M A n c l I K (j + d)) := HPA2.out.on (alM _ _)
    have HX5 : Hid ((w3.alloc (.cells #[.int .i64 pk, .int .i64 pn, .int .i64 pd, .int .i64 pv] 82)).heap[X]? = some (.cells #[.int .i64 pm.a, .bool pm.b, .int .i64 pm.n, .int .i64 pm.d, .string ⟨pm.s.toArray⟩] 34)) := row_on HX.out (alM _ _)
    have HR5 : Hid (RdQ (w3.alloc (.cells #[.int .i64 pk, .int .i64 pn, .int .i64 pd, .int .i64 pv] 82)) (some ⟨w3.heap.size, 0, none⟩) [(pk, pn, pd, pv)]) := (one_rowQ w3 pk pn pd pv).rd
    have hz5 := row_lt HPA5.out.z
    clear HM' HPA2 HX
    go_upto_region 10 with fail
    go_wp2_with (refine listA rfl (.tmp 32) (.tmp 34) rfl (w.heap.size + 2) n c A l ⟨w3.heap.size, 0, none⟩ (pk, pn, pd, pv) rfl rfl HPA5.out.o HR5.out (by omega) (by omega) ?_)
    intro g6 c6 w6 hown6 hgr6
    have HPA6 : Hid (PJ w w6 M (some ⟨g6, 0, none⟩) (n + 1) c6 (l ++ [(pk, pn, pd, pv)]) I K (j + d)) := HPA5.out.grown hgr6 hown6
    have HX6 : Hid (w6.heap[X]? = some (.cells #[.int .i64 pm.a, .bool pm.b, .int .i64 pm.n, .int .i64 pm.d, .string ⟨pm.s.toArray⟩] 34)) := HPA5.out.o.far hgr6 HX5.out (fun cur e => by cases e)
    have x := box5_cells HX6.out
    clear hown6 hgr6 HPA5 HX5 HR5 HY y hz5
    go_upto_region 11 with fail
    go_wp2_with (refine listStoreM rfl rfl _ _ _ rfl rfl w.heap.size pm.a pm.b pm.n pm.d ⟨pm.s.toArray⟩ rfl rfl HPA6.out.p ?_)
    intro w7 hput
    have HPA7 : Hid (PJ w w7 pm (some ⟨g6, 0, none⟩) (n + 1) c6 (l ++ [(pk, pn, pd, pv)]) I K (j + d)) := HPA6.out.store hI hput
    clear hput HPA6 HX6 x
    go_wp2
    go_roundg (gk - d)
    case measure => omega
    case rel => exact ⟨j + d, n + 1, c6, some ⟨g6, 0, none⟩, pm, l ++ [(pk, pn, pd, pv)], by omega, rfl, HM2, HPA7⟩
  ·
   have hnx : ∀ ty, (Instr.next (.pointer (some ⟨I, 0, none⟩)) true ty).run Tryz.prog wr = _ := fun ty => Lib.run_next_end_at wr I K j ty HPA.out.it hlt
   have HE : Hid (allM m ks = (M, l)) := by show _ = _; have h := HM.out; rw [List.take_of_length_le (by omega)] at h; exact h
   obtain ⟨rfl, rfl⟩ : M = M2 ∧ l = l2 := by have h := HE.out.symm.trans HR.out; simpa using h
   obtain rfl : n = q := by rw [← HPA.out.o.len]; exact HQ.out
   have x := box5_cells HPA.out.p
   have HZ : Hid (wr.heap[w.heap.size + 1]? = some (.cells #[.int .i64 0, .bool false, .int .i64 0, .int .i64 0, .string ⟨#[]⟩] 34)) := HPA.out.z
   have HO : Hid (OwnA wr (w.heap.size + 2) A n c l) := HPA.out.o
   have HB : Hid (Below w.heap.size w wr) := HPA.out.b
   clear HE HM HR HQ HPA
   go_upto_region 12 with fail
   go_wp2_with (refine listStoreM rfl rfl _ _ _ rfl rfl (w.heap.size + 1) M.a M.b M.n M.d ⟨M.s.toArray⟩ rfl rfl HZ.out ?_)
   intro w2 hput
   have HB2 := aqMnI (hput.2.2.2 _ _ (Nat.le_succ _) HB.out)
   have HO2 : Hid (OwnA w2 (w.heap.size + 2) A n c l) := HO.out.put hput HZ.out
   have zz := box5_cells hput.1
   clear hput HB HO HZ x
   go_wp2
   refine bodyPost_ret (v := .tuple #[.agg #[.int .i64 M.a, .bool M.b, .int .i64 M.n, .int .i64 M.d, .string ⟨M.s.toArray⟩], .slice A n c]) (by simp only [results, Tryz.results130]; simp [go_sem, zz]) rfl ⟨A, c, rfl, HO2.out.mono (by omega), HB2.out⟩
end Go.Proofs.YtfhhnelffldggaaGreatDoor
