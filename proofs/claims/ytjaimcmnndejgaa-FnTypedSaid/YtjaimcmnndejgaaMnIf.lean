/-
  Menus of the program: pressed.
-/
import Derived.Test.YtjaimcmnndejgaaMnIe
import Derived.Laws.Runes
namespace Go.Proofs.Ytjaimcmnndejgaa
open Go.RowKit Go.PlainAid
set_option linter.unusedVariables false
set_option linter.unusedSimpArgs false

theorem key_text {key : Int} {x : UInt8} (h : 48 ≤ key ∧ key ≤ 57) (hx : (x.toNat : Int) = key) (w : World) : (convert 21 9 (.int .i32 key)).run Try.prog w = .ok (.string (⟨#[x]⟩ : ByteArray)) w := by
  rw [run_convert_int_string w _ _ _ _ (by rw [Try.underlying21]; rfl) Try.underlying9]
  have e : Utf8.encode key = (⟨#[x]⟩ : ByteArray) := by
    have hv : Utf8.valid key = true := by simp [Utf8.valid]; omega
    have hn : key.toNat < 128 := by omega
    have hb : UInt8.ofNat key.toNat = x := by rw [← hx]; simp
    unfold Utf8.encode
    simp only [hv, if_true, hn, hb]
  rw [e]
/-- what a key does to a menu beyond the top -/
theorem press_far {a : Int} {b : Bool} {n d : Int} {s : List UInt8} (hk : okM ⟨a, b, n, d, s⟩ = true) (h1 : a ≠ 1) (key : Int) : pressM ⟨a, b, n, d, s⟩ key = (if 48 ≤ key ∧ key ≤ 57 then (if s.length < 4 then noP ⟨a, b, n, d, s ++ [UInt8.ofNat key.toNat]⟩ else noP ⟨a, b, n, d, s⟩) else if key = 99 then noP newM else if key ≠ 10 then noP ⟨a, b, n, d, s⟩ else entM a b n d (numF s)) := by
  have ha := ((okM_iff _).1 hk).1.1
  unfold pressM
  rw [if_neg (by rw [hk]; decide), if_neg h1]
  by_cases a2 : a = 2
  · simp [a2, entM]
  by_cases a3 : a = 3
  · simp [a3, entM]
  unfold entM endM
  simp only [if_neg a2, if_neg a3]
set_option maxRecDepth 100000 in
set_option maxHeartbeats 4000000 in
theorem pressedI (m : Mn) (hm : GdM m) (key : Int) (r : Pr) (hr : pressM m key = r) (w : World) : Calls Try.prog 35 #[mnV m, .int .i32 key] w fun e w' => e = .returned (.tuple #[mnV r.m, ordV r.k r.n r.d r.v, .bool r.t]) ∧ Below w.heap.size w w' := by
  by_cases a1 : m.a = 1
  · obtain rfl := top_new hm.1 a1
    have HR : Hid (topM newM key = r) := by show _ = _; rw [← hr]; unfold pressM; rw [if_neg (by decide), if_pos (show newM.a = 1 from rfl)]
    obtain ⟨h1, h2, h3, h4, h5⟩ := box3m w (.cells #[.int .i64 1, .bool false, .int .i64 0, .int .i64 0, .string ⟨#[]⟩] 26) (.cells #[.int .i64 0, .bool false, .int .i64 0, .int .i64 0, .string ⟨#[]⟩] 26) (.cells #[.int .i64 0, .int .i64 0, .int .i64 0, .int .i64 0] 34)
    have HP0 : Hid (_ = _) := h1
    have HZ0 : Hid (_ = _) := h2
    have HO0 : Hid (_ = _) := h3
    have HB0 : Hid (Below _ _ _) := h4
    have p0 := box5_cells h1
    clear h1 h2 h3 h4 h5 hr hm a1
    obtain ⟨⟨a2, b2, n2, d2, s2⟩, k3, n3, d3, v3, t3⟩ := r
    unfold mnV ordV newM
    dsimp only
    go_enter Try.func35, Try.ntmps35
    go_wp2_with fail
    refine (chosenI key _ HR.out _).mono ?_
    rintro e w2 ⟨rfl, hb1⟩
    have HB2 : Hid (Below w.heap.size w w2) := bel_on (Nat.le_refl _) HB0.out hb1
    have HP2 : Hid (w2.heap[w.heap.size]? = some (.cells #[.int .i64 1, .bool false, .int .i64 0, .int .i64 0, .string ⟨#[]⟩] 26)) := row_on HP0.out hb1
    have HZ2 : Hid (w2.heap[w.heap.size + 1]? = some (.cells #[.int .i64 0, .bool false, .int .i64 0, .int .i64 0, .string ⟨#[]⟩] 26)) := row_on HZ0.out hb1
    have HO2 : Hid (w2.heap[w.heap.size + 2]? = some (.cells #[.int .i64 0, .int .i64 0, .int .i64 0, .int .i64 0] 34)) := row_on HO0.out hb1
    have p2 := box5_cells HP2.out
    clear hb1 HB0 HP0 HZ0 HO0 p0
    unfold mnV ordV
    dsimp only
    go_wp2_with (refine listStoreM rfl rfl _ _ _ rfl rfl (w.heap.size + 1) (a2) (b2) (n2) (d2) (⟨s2.toArray⟩) rfl rfl HZ2.out ?_)
    intro w8 hput
    have HB8 : Hid (Below w.heap.size w w8) := hput.2.2.2 _ _ (Nat.le_succ _) HB2.out
    have HO8 : Hid (w8.heap[w.heap.size + 2]? = some (.cells #[.int .i64 0, .int .i64 0, .int .i64 0, .int .i64 0] 34)) := hput.far HO2.out (by omega)
    have HZ8 : Hid (w8.heap[w.heap.size + 1]? = some (.cells #[.int .i64 a2, .bool b2, .int .i64 n2, .int .i64 d2, .string ⟨s2.toArray⟩] 26)) := hput.1
    clear hput
    go_wp2_with (refine listStoreO rfl rfl _ _ _ rfl rfl (w.heap.size + 2) (k3) (n3) (d3) (v3) rfl rfl HO8.out ?_)
    intro w9 hput
    have HB9 : Hid (Below w.heap.size w w9) := hput.2.2.2 _ _ (by omega) HB8.out
    have zz := box5_cells (hput.far HZ8.out (by omega))
    have yy := box4_cells hput.1
    clear hput HB8 HO8 HZ8
    go_wp2
    refine bodyPost_ret (v := .tuple #[.agg #[.int .i64 a2, .bool b2, .int .i64 n2, .int .i64 d2, .string ⟨s2.toArray⟩], .agg #[.int .i64 k3, .int .i64 n3, .int .i64 d3, .int .i64 v3], .bool t3]) (by simp only [results, Try.results35]; simp [go_sem, zz, yy]) rfl ⟨rfl, HB9.out⟩
  obtain ⟨a, b, n, d, s⟩ := m
  obtain ⟨S, hS⟩ : ∃ S : ByteArray, (⟨s.toArray⟩ : ByteArray) = S := ⟨_, rfl⟩
  have HOF := (okM_iff _).1 hm.1
  have HFG : Hid (∀ x ∈ s, figB x = true) := HOF.2.1
  have hlen : s.length ≤ 4 := HOF.1.2.2.2
  have ha4 : 1 ≤ a ∧ a ≤ 4 := HOF.1.1
  dsimp only at a1
  have HG : Hid (b = true → n = 0 ∧ d = 0) := fun h => good_b hm.2.1 h
  have HR1 : Hid ((if 48 ≤ key ∧ key ≤ 57 then (if s.length < 4 then noP ⟨a, b, n, d, s ++ [UInt8.ofNat key.toNat]⟩ else noP ⟨a, b, n, d, s⟩) else if key = 99 then noP newM else if key ≠ 10 then noP ⟨a, b, n, d, s⟩ else entM a b n d (numF s)) = r) := by show _ = _; rw [← press_far hm.1 a1, hr]
  obtain ⟨h1, h2, h3, h4, h5⟩ := box3m w (.cells #[.int .i64 a, .bool b, .int .i64 n, .int .i64 d, .string S] 26) (.cells #[.int .i64 0, .bool false, .int .i64 0, .int .i64 0, .string ⟨#[]⟩] 26) (.cells #[.int .i64 0, .int .i64 0, .int .i64 0, .int .i64 0] 34)
  have HP0 : Hid (_ = _) := h1
  have HZ0 : Hid (_ = _) := h2
  have HO0 : Hid (_ = _) := h3
  have HB0 : Hid (Below _ _ _) := h4
  have p0 := box5_cells h1
  have HS : Hid ((⟨s.toArray⟩ : ByteArray) = S) := hS
  have hsz := txt_size hS
  unfold mnV ordV
  dsimp only
  rw [hS]
  clear h1 h2 h3 h4 h5 hr HOF hm hS
  go_enter Try.func35, Try.ntmps35
  have q1 : (a == 1) = false := by simpa using a1
  by_cases k10 : key = 10
  · subst k10
    have HE : Hid (entM a b n d (numF s) = r) := by have h := HR1.out; rw [if_neg (by decide), if_neg (by decide), if_neg (by decide)] at h; exact h
    obtain ⟨⟨a2, b2, n2, d2, s2⟩, k3, n3, d3, v3, t3⟩ := r
    obtain ⟨z, hz⟩ : ∃ z, numF s = z := ⟨_, rfl⟩
    rw [hz] at HE
    have HZF : Hid (numF s = z) := hz
    clear HR1 hz
    (try dsimp only)
    go_wp2_with fail
    refine (enteredI a b n d s S HS.out z HZF.out HFG.out hlen ⟨by omega, ha4.2⟩ HG.out _ HE.out _).mono ?_
    rintro e w2 ⟨rfl, hb1⟩
    have HB2 : Hid (Below w.heap.size w w2) := bel_on (Nat.le_refl _) HB0.out hb1
    have HP2 : Hid (w2.heap[w.heap.size]? = some (.cells #[.int .i64 a, .bool b, .int .i64 n, .int .i64 d, .string S] 26)) := row_on HP0.out hb1
    have HZ2 : Hid (w2.heap[w.heap.size + 1]? = some (.cells #[.int .i64 0, .bool false, .int .i64 0, .int .i64 0, .string ⟨#[]⟩] 26)) := row_on HZ0.out hb1
    have HO2 : Hid (w2.heap[w.heap.size + 2]? = some (.cells #[.int .i64 0, .int .i64 0, .int .i64 0, .int .i64 0] 34)) := row_on HO0.out hb1
    have p2 := box5_cells HP2.out
    clear hb1 HB0 HP0 HZ0 HO0 p0
    clear HE HZF HG HFG HS
    unfold mnV ordV
    dsimp only
    go_wp2_with (refine listStoreM rfl rfl _ _ _ rfl rfl (w.heap.size + 1) (a2) (b2) (n2) (d2) (⟨s2.toArray⟩) rfl rfl HZ2.out ?_)
    intro w8 hput
    have HB8 : Hid (Below w.heap.size w w8) := hput.2.2.2 _ _ (Nat.le_succ _) HB2.out
    have HO8 : Hid (w8.heap[w.heap.size + 2]? = some (.cells #[.int .i64 0, .int .i64 0, .int .i64 0, .int .i64 0] 34)) := hput.far HO2.out (by omega)
    have HZ8 : Hid (w8.heap[w.heap.size + 1]? = some (.cells #[.int .i64 a2, .bool b2, .int .i64 n2, .int .i64 d2, .string ⟨s2.toArray⟩] 26)) := hput.1
    clear hput
    go_wp2_with (refine listStoreO rfl rfl _ _ _ rfl rfl (w.heap.size + 2) (k3) (n3) (d3) (v3) rfl rfl HO8.out ?_)
    intro w9 hput
    have HB9 : Hid (Below w.heap.size w w9) := hput.2.2.2 _ _ (by omega) HB8.out
    have zz := box5_cells (hput.far HZ8.out (by omega))
    have yy := box4_cells hput.1
    clear hput HB8 HO8 HZ8
    go_wp2
    refine bodyPost_ret (v := .tuple #[.agg #[.int .i64 a2, .bool b2, .int .i64 n2, .int .i64 d2, .string ⟨s2.toArray⟩], .agg #[.int .i64 k3, .int .i64 n3, .int .i64 d3, .int .i64 v3], .bool t3]) (by simp only [results, Try.results35]; simp [go_sem, zz, yy]) rfl ⟨rfl, HB9.out⟩
  have q10 : (key == 10) = false := by simpa using k10
  by_cases k99 : key = 99
  · obtain rfl : noP newM = r := by have h := HR1.out; rw [if_neg (by omega), if_pos k99] at h; exact h
    clear HR1 HG HFG HS
    subst k99
    (try dsimp only [noP, newM])
    go_wp2_with fail
    refine (menunewI _).mono ?_
    rintro e w2 ⟨rfl, hb1⟩
    unfold mnV newM
    dsimp only
    have HB2 : Hid (Below w.heap.size w w2) := bel_on (Nat.le_refl _) HB0.out hb1
    have HP2 : Hid (w2.heap[w.heap.size]? = some (.cells #[.int .i64 a, .bool b, .int .i64 n, .int .i64 d, .string S] 26)) := row_on HP0.out hb1
    have HZ2 : Hid (w2.heap[w.heap.size + 1]? = some (.cells #[.int .i64 0, .bool false, .int .i64 0, .int .i64 0, .string ⟨#[]⟩] 26)) := row_on HZ0.out hb1
    have HO2 : Hid (w2.heap[w.heap.size + 2]? = some (.cells #[.int .i64 0, .int .i64 0, .int .i64 0, .int .i64 0] 34)) := row_on HO0.out hb1
    have p2 := box5_cells HP2.out
    clear hb1 HB0 HP0 HZ0 HO0 p0
    go_wp2_with (refine listStoreM rfl rfl _ _ _ rfl rfl (w.heap.size + 1) (1) (false) (0) (0) (⟨#[]⟩) rfl rfl HZ2.out ?_)
    intro w8 hput
    have HB8 : Hid (Below w.heap.size w w8) := hput.2.2.2 _ _ (Nat.le_succ _) HB2.out
    have HO8 : Hid (w8.heap[w.heap.size + 2]? = some (.cells #[.int .i64 0, .int .i64 0, .int .i64 0, .int .i64 0] 34)) := hput.far HO2.out (by omega)
    have HZ8 : Hid (w8.heap[w.heap.size + 1]? = some (.cells #[.int .i64 1, .bool false, .int .i64 0, .int .i64 0, .string ⟨#[]⟩] 26)) := hput.1
    clear hput
    go_wp2_with (refine listStoreO rfl rfl _ _ _ rfl rfl (w.heap.size + 2) (0) (0) (0) (0) rfl rfl HO8.out ?_)
    intro w9 hput
    have HB9 : Hid (Below w.heap.size w w9) := hput.2.2.2 _ _ (by omega) HB8.out
    have zz := box5_cells (hput.far HZ8.out (by omega))
    have yy := box4_cells hput.1
    clear hput HB8 HO8 HZ8
    go_wp2
    refine bodyPost_ret (v := .tuple #[.agg #[.int .i64 1, .bool false, .int .i64 0, .int .i64 0, .string ⟨#[]⟩], .agg #[.int .i64 0, .int .i64 0, .int .i64 0, .int .i64 0], .bool false]) (by simp only [results, Try.results35]; simp [go_sem, zz, yy]) rfl ⟨rfl, HB9.out⟩
  have q99 : (key == 99) = false := by simpa using k99
  by_cases hk : 48 ≤ key ∧ key ≤ 57
  · have HD : Hid (decide (48 ≤ key ∧ key ≤ 57) = true) := decide_eq_true hk
    by_cases h4 : S.size < 4
    · obtain ⟨x, hx, hx2⟩ := key_byte hk
      obtain rfl : noP ⟨a, b, n, d, s ++ [x]⟩ = r := by have h := HR1.out; rw [if_pos hk, if_pos (by omega), hx2] at h; exact h
      have HCV : Hid (∀ w : World, (convert 21 9 (.int .i32 key)).run Try.prog w = .ok (.string (⟨#[x]⟩ : ByteArray)) w) := key_text hk hx
      have HSX : Hid ((⟨(s ++ [x]).toArray⟩ : ByteArray) = S ++ (⟨#[x]⟩ : ByteArray)) := by show _ = _; rw [← HS.out, txt_one]
      have h4' : (S.size : Int) < 4 := by omega
      have hsS : S.size ≤ 4 := by omega
      clear HR1 HG HFG HS hx hx2 hk
      (try dsimp only [noP])
      go_wp2_with fail
      refine (figI key true HD.out _).mono ?_
      rintro e w1 ⟨rfl, hw⟩
      subst hw
      have hone := HCV.out
      clear HD
      go_upto_region 8 with fail
      go_wp2_with (refine listStoreT rfl rfl _ _ _ rfl rfl w.heap.size 4 (S ++ (⟨#[x]⟩ : ByteArray)) rfl rfl HP0.out (by simp) ?_)
      intro w3 hput
      clear hone HCV
      generalize hSX : S ++ (⟨#[x]⟩ : ByteArray) = SX at *
      have HB3 : Hid (Below w.heap.size w w3) := hput.2.2.2 _ _ (Nat.le_refl _) HB0.out
      have HP3 : Hid (w3.heap[w.heap.size]? = some (.cells #[.int .i64 a, .bool b, .int .i64 n, .int .i64 d, .string SX] 26)) := hput.1
      have HZ3 : Hid (w3.heap[w.heap.size + 1]? = some (.cells #[.int .i64 0, .bool false, .int .i64 0, .int .i64 0, .string ⟨#[]⟩] 26)) := hput.far HZ0.out (by omega)
      have HO3 : Hid (w3.heap[w.heap.size + 2]? = some (.cells #[.int .i64 0, .int .i64 0, .int .i64 0, .int .i64 0] 34)) := hput.far HO0.out (by omega)
      have p3 := box5_cells HP3.out
      clear hput HB0 HP0 HZ0 HO0 p0
      go_upto_region 9 with fail
      go_wp2_with (refine listStoreM rfl rfl _ _ _ rfl rfl (w.heap.size + 1) (a) (b) (n) (d) (SX) rfl rfl HZ3.out ?_)
      intro w8 hput
      have HB8 : Hid (Below w.heap.size w w8) := hput.2.2.2 _ _ (Nat.le_succ _) HB3.out
      have HO8 : Hid (w8.heap[w.heap.size + 2]? = some (.cells #[.int .i64 0, .int .i64 0, .int .i64 0, .int .i64 0] 34)) := hput.far HO3.out (by omega)
      have HZ8 : Hid (w8.heap[w.heap.size + 1]? = some (.cells #[.int .i64 a, .bool b, .int .i64 n, .int .i64 d, .string SX] 26)) := hput.1
      clear hput
      go_wp2_with (refine listStoreO rfl rfl _ _ _ rfl rfl (w.heap.size + 2) (0) (0) (0) (0) rfl rfl HO8.out ?_)
      intro w9 hput
      have HB9 : Hid (Below w.heap.size w w9) := hput.2.2.2 _ _ (by omega) HB8.out
      have zz := box5_cells (hput.far HZ8.out (by omega))
      have yy := box4_cells hput.1
      clear hput HB8 HO8 HZ8
      go_wp2
      refine bodyPost_ret (v := .tuple #[.agg #[.int .i64 a, .bool b, .int .i64 n, .int .i64 d, .string SX], .agg #[.int .i64 0, .int .i64 0, .int .i64 0, .int .i64 0], .bool false]) (by simp only [results, Try.results35]; simp [go_sem, zz, yy]) rfl ⟨(by rw [← HSX.out] <;> rfl), HB9.out⟩
    · obtain rfl : noP ⟨a, b, n, d, s⟩ = r := by have h := HR1.out; rw [if_pos hk, if_neg (by omega)] at h; exact h
      have h4' : ¬ (S.size : Int) < 4 := by omega
      clear HR1 HG HFG hk
      (try dsimp only [noP])
      go_wp2_with fail
      refine (figI key true HD.out _).mono ?_
      rintro e w1 ⟨rfl, hw⟩
      subst hw
      clear HD
      go_upto_region 9 with fail
      go_wp2_with (refine listStoreM rfl rfl _ _ _ rfl rfl (w.heap.size + 1) (a) (b) (n) (d) (S) rfl rfl HZ0.out ?_)
      intro w8 hput
      have HB8 : Hid (Below w.heap.size w w8) := hput.2.2.2 _ _ (Nat.le_succ _) HB0.out
      have HO8 : Hid (w8.heap[w.heap.size + 2]? = some (.cells #[.int .i64 0, .int .i64 0, .int .i64 0, .int .i64 0] 34)) := hput.far HO0.out (by omega)
      have HZ8 : Hid (w8.heap[w.heap.size + 1]? = some (.cells #[.int .i64 a, .bool b, .int .i64 n, .int .i64 d, .string S] 26)) := hput.1
      clear hput
      go_wp2_with (refine listStoreO rfl rfl _ _ _ rfl rfl (w.heap.size + 2) (0) (0) (0) (0) rfl rfl HO8.out ?_)
      intro w9 hput
      have HB9 : Hid (Below w.heap.size w w9) := hput.2.2.2 _ _ (by omega) HB8.out
      have zz := box5_cells (hput.far HZ8.out (by omega))
      have yy := box4_cells hput.1
      clear hput HB8 HO8 HZ8
      go_wp2
      refine bodyPost_ret (v := .tuple #[.agg #[.int .i64 a, .bool b, .int .i64 n, .int .i64 d, .string S], .agg #[.int .i64 0, .int .i64 0, .int .i64 0, .int .i64 0], .bool false]) (by simp only [results, Try.results35]; simp [go_sem, zz, yy]) rfl ⟨(by rw [← HS.out] <;> rfl), HB9.out⟩
  · have HD : Hid (decide (48 ≤ key ∧ key ≤ 57) = false) := decide_eq_false hk
    obtain rfl : noP ⟨a, b, n, d, s⟩ = r := by have h := HR1.out; rw [if_neg hk, if_neg k99, if_pos k10] at h; exact h
    clear HR1 HG HFG hk
    (try dsimp only [noP])
    go_wp2_with fail
    refine (figI key false HD.out _).mono ?_
    rintro e w1 ⟨rfl, hw⟩
    subst hw
    clear HD
    go_upto_region 9 with fail
    go_wp2_with (refine listStoreM rfl rfl _ _ _ rfl rfl (w.heap.size + 1) (a) (b) (n) (d) (S) rfl rfl HZ0.out ?_)
    intro w8 hput
    have HB8 : Hid (Below w.heap.size w w8) := hput.2.2.2 _ _ (Nat.le_succ _) HB0.out
    have HO8 : Hid (w8.heap[w.heap.size + 2]? = some (.cells #[.int .i64 0, .int .i64 0, .int .i64 0, .int .i64 0] 34)) := hput.far HO0.out (by omega)
    have HZ8 : Hid (w8.heap[w.heap.size + 1]? = some (.cells #[.int .i64 a, .bool b, .int .i64 n, .int .i64 d, .string S] 26)) := hput.1
    clear hput
    go_wp2_with (refine listStoreO rfl rfl _ _ _ rfl rfl (w.heap.size + 2) (0) (0) (0) (0) rfl rfl HO8.out ?_)
    intro w9 hput
    have HB9 : Hid (Below w.heap.size w w9) := hput.2.2.2 _ _ (by omega) HB8.out
    have zz := box5_cells (hput.far HZ8.out (by omega))
    have yy := box4_cells hput.1
    clear hput HB8 HO8 HZ8
    go_wp2
    refine bodyPost_ret (v := .tuple #[.agg #[.int .i64 a, .bool b, .int .i64 n, .int .i64 d, .string S], .agg #[.int .i64 0, .int .i64 0, .int .i64 0, .int .i64 0], .bool false]) (by simp only [results, Try.results35]; simp [go_sem, zz, yy]) rfl ⟨(by rw [← HS.out] <;> rfl), HB9.out⟩
end Go.Proofs.Ytjaimcmnndejgaa
