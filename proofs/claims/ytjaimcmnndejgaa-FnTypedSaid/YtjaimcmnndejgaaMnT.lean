/-
  Menus of the specification: the top, Press.
-/
import Derived.Test.YtjaimcmnndejgaaMnS
namespace Go.Proofs.Ytjaimcmnndejgaa
open Go.RowKit Go.PlainAid
set_option linter.unusedVariables false
set_option linter.unusedSimpArgs false

set_option maxRecDepth 100000 in
set_option maxHeartbeats 4000000 in
theorem topS (m : Mn) (key : Int) (r : Pr) (hr : topM m key = r) (w : World) : Calls Try.prog 45 #[mnV m, .int .i64 key] w fun e w' => e = .returned (.tuple #[mnV r.m, ordV r.k r.n r.d r.v, .bool r.t]) ∧ Below w.heap.size w w' := by
  obtain ⟨a, b, n, d, s⟩ := m
  obtain ⟨S, hS⟩ : ∃ S : ByteArray, (⟨s.toArray⟩ : ByteArray) = S := ⟨_, rfl⟩
  obtain ⟨h1, h2, h3, h4, h5⟩ := box3m w (.cells #[.int .i64 a, .bool b, .int .i64 n, .int .i64 d, .string S] 26) (.cells #[.int .i64 0, .bool false, .int .i64 0, .int .i64 0, .string ⟨#[]⟩] 26) (.cells #[.int .i64 0, .int .i64 0, .int .i64 0, .int .i64 0] 34)
  have HP0 : Hid (_ = _) := h1
  have HZ0 : Hid (_ = _) := h2
  have HO0 : Hid (_ = _) := h3
  have HB0 : Hid (Below _ _ _) := h4
  have p0 := box5_cells h1
  clear h1 h2 h3 h4 h5
  unfold mnV ordV
  dsimp only
  rw [hS]
  have HR : Hid (topM ⟨a, b, n, d, s⟩ key = r) := hr
  clear hr
  go_enter Try.func45, Try.ntmps45
  by_cases k98 : key = 98
  · obtain rfl : noP ⟨2, false, 0, 0, []⟩ = r := by rw [← HR.out]; unfold topM; simp [k98]
    clear HR
    subst k98
    dsimp only [noP]
    try rw [hS]
    clear hS
    go_upto_region 3 with fail
    go_wp2_with (refine listStoreM rfl rfl _ _ _ rfl rfl (w.heap.size + 1) (2) (false) (0) (0) (⟨#[]⟩) rfl rfl HZ0.out ?_)
    intro w8 hput
    have HB8 : Hid (Below w.heap.size w w8) := hput.2.2.2 _ _ (Nat.le_succ _) HB0.out
    have HO8 : Hid (w8.heap[w.heap.size + 2]? = some (.cells #[.int .i64 0, .int .i64 0, .int .i64 0, .int .i64 0] 34)) := hput.far HO0.out (by omega)
    have HZ8 : Hid (w8.heap[w.heap.size + 1]? = some (.cells #[.int .i64 2, .bool false, .int .i64 0, .int .i64 0, .string ⟨#[]⟩] 26)) := hput.1
    clear hput
    go_wp2_with (refine listStoreO rfl rfl _ _ _ rfl rfl (w.heap.size + 2) (0) (0) (0) (0) rfl rfl HO8.out ?_)
    intro w9 hput
    have HB9 : Hid (Below w.heap.size w w9) := hput.2.2.2 _ _ (by omega) HB8.out
    have zz := box5_cells (hput.far HZ8.out (by omega))
    have yy := box4_cells hput.1
    clear hput HB8 HO8 HZ8
    go_wp2
    refine bodyPost_ret (v := .tuple #[.agg #[.int .i64 2, .bool false, .int .i64 0, .int .i64 0, .string ⟨#[]⟩], .agg #[.int .i64 0, .int .i64 0, .int .i64 0, .int .i64 0], .bool false]) (by simp only [results, Try.results45]; simp [go_sem, zz, yy]) rfl ⟨rfl, HB9.out⟩
  have q98 : (key == 98) = false := by simpa using k98
  by_cases k111 : key = 111
  · obtain rfl : noP ⟨4, true, 0, 0, []⟩ = r := by rw [← HR.out]; unfold topM; simp [k111]
    clear HR
    subst k111
    dsimp only [noP]
    try rw [hS]
    clear hS
    go_upto_region 5 with fail
    go_wp2_with (refine listStoreM rfl rfl _ _ _ rfl rfl (w.heap.size + 1) (4) (true) (0) (0) (⟨#[]⟩) rfl rfl HZ0.out ?_)
    intro w8 hput
    have HB8 : Hid (Below w.heap.size w w8) := hput.2.2.2 _ _ (Nat.le_succ _) HB0.out
    have HO8 : Hid (w8.heap[w.heap.size + 2]? = some (.cells #[.int .i64 0, .int .i64 0, .int .i64 0, .int .i64 0] 34)) := hput.far HO0.out (by omega)
    have HZ8 : Hid (w8.heap[w.heap.size + 1]? = some (.cells #[.int .i64 4, .bool true, .int .i64 0, .int .i64 0, .string ⟨#[]⟩] 26)) := hput.1
    clear hput
    go_wp2_with (refine listStoreO rfl rfl _ _ _ rfl rfl (w.heap.size + 2) (0) (0) (0) (0) rfl rfl HO8.out ?_)
    intro w9 hput
    have HB9 : Hid (Below w.heap.size w w9) := hput.2.2.2 _ _ (by omega) HB8.out
    have zz := box5_cells (hput.far HZ8.out (by omega))
    have yy := box4_cells hput.1
    clear hput HB8 HO8 HZ8
    go_wp2
    refine bodyPost_ret (v := .tuple #[.agg #[.int .i64 4, .bool true, .int .i64 0, .int .i64 0, .string ⟨#[]⟩], .agg #[.int .i64 0, .int .i64 0, .int .i64 0, .int .i64 0], .bool false]) (by simp only [results, Try.results45]; simp [go_sem, zz, yy]) rfl ⟨rfl, HB9.out⟩
  have q111 : (key == 111) = false := by simpa using k111
  by_cases k112 : key = 112
  · obtain rfl : ⟨⟨a, b, n, d, s⟩, 3, 0, 0, 0, true⟩ = r := by rw [← HR.out]; unfold topM; simp [k112]
    clear HR
    subst k112
    dsimp only [noP]
    try rw [hS]
    clear hS
    go_upto_region 7 with fail
    go_wp2_with (refine listStoreM rfl rfl _ _ _ rfl rfl (w.heap.size + 1) (a) (b) (n) (d) (S) rfl rfl HZ0.out ?_)
    intro w8 hput
    have HB8 : Hid (Below w.heap.size w w8) := hput.2.2.2 _ _ (Nat.le_succ _) HB0.out
    have HO8 : Hid (w8.heap[w.heap.size + 2]? = some (.cells #[.int .i64 0, .int .i64 0, .int .i64 0, .int .i64 0] 34)) := hput.far HO0.out (by omega)
    have HZ8 : Hid (w8.heap[w.heap.size + 1]? = some (.cells #[.int .i64 a, .bool b, .int .i64 n, .int .i64 d, .string S] 26)) := hput.1
    clear hput
    go_wp2_with (refine listStoreO rfl rfl _ _ _ rfl rfl (w.heap.size + 2) (3) (0) (0) (0) rfl rfl HO8.out ?_)
    intro w9 hput
    have HB9 : Hid (Below w.heap.size w w9) := hput.2.2.2 _ _ (by omega) HB8.out
    have zz := box5_cells (hput.far HZ8.out (by omega))
    have yy := box4_cells hput.1
    clear hput HB8 HO8 HZ8
    go_wp2
    refine bodyPost_ret (v := .tuple #[.agg #[.int .i64 a, .bool b, .int .i64 n, .int .i64 d, .string S], .agg #[.int .i64 3, .int .i64 0, .int .i64 0, .int .i64 0], .bool true]) (by simp only [results, Try.results45]; simp [go_sem, zz, yy]) rfl ⟨rfl, HB9.out⟩
  have q112 : (key == 112) = false := by simpa using k112
  by_cases k103 : key = 103
  · obtain rfl : ⟨⟨a, b, n, d, s⟩, 4, 0, 0, 0, true⟩ = r := by rw [← HR.out]; unfold topM; simp [k103]
    clear HR
    subst k103
    dsimp only [noP]
    try rw [hS]
    clear hS
    go_upto_region 9 with fail
    go_wp2_with (refine listStoreM rfl rfl _ _ _ rfl rfl (w.heap.size + 1) (a) (b) (n) (d) (S) rfl rfl HZ0.out ?_)
    intro w8 hput
    have HB8 : Hid (Below w.heap.size w w8) := hput.2.2.2 _ _ (Nat.le_succ _) HB0.out
    have HO8 : Hid (w8.heap[w.heap.size + 2]? = some (.cells #[.int .i64 0, .int .i64 0, .int .i64 0, .int .i64 0] 34)) := hput.far HO0.out (by omega)
    have HZ8 : Hid (w8.heap[w.heap.size + 1]? = some (.cells #[.int .i64 a, .bool b, .int .i64 n, .int .i64 d, .string S] 26)) := hput.1
    clear hput
    go_wp2_with (refine listStoreO rfl rfl _ _ _ rfl rfl (w.heap.size + 2) (4) (0) (0) (0) rfl rfl HO8.out ?_)
    intro w9 hput
    have HB9 : Hid (Below w.heap.size w w9) := hput.2.2.2 _ _ (by omega) HB8.out
    have zz := box5_cells (hput.far HZ8.out (by omega))
    have yy := box4_cells hput.1
    clear hput HB8 HO8 HZ8
    go_wp2
    refine bodyPost_ret (v := .tuple #[.agg #[.int .i64 a, .bool b, .int .i64 n, .int .i64 d, .string S], .agg #[.int .i64 4, .int .i64 0, .int .i64 0, .int .i64 0], .bool true]) (by simp only [results, Try.results45]; simp [go_sem, zz, yy]) rfl ⟨rfl, HB9.out⟩
  have q103 : (key == 103) = false := by simpa using k103
  by_cases k115 : key = 115
  · obtain rfl : ⟨⟨a, b, n, d, s⟩, 5, 0, 0, 0, true⟩ = r := by rw [← HR.out]; unfold topM; simp [k115]
    clear HR
    subst k115
    dsimp only [noP]
    try rw [hS]
    clear hS
    go_upto_region 11 with fail
    go_wp2_with (refine listStoreM rfl rfl _ _ _ rfl rfl (w.heap.size + 1) (a) (b) (n) (d) (S) rfl rfl HZ0.out ?_)
    intro w8 hput
    have HB8 : Hid (Below w.heap.size w w8) := hput.2.2.2 _ _ (Nat.le_succ _) HB0.out
    have HO8 : Hid (w8.heap[w.heap.size + 2]? = some (.cells #[.int .i64 0, .int .i64 0, .int .i64 0, .int .i64 0] 34)) := hput.far HO0.out (by omega)
    have HZ8 : Hid (w8.heap[w.heap.size + 1]? = some (.cells #[.int .i64 a, .bool b, .int .i64 n, .int .i64 d, .string S] 26)) := hput.1
    clear hput
    go_wp2_with (refine listStoreO rfl rfl _ _ _ rfl rfl (w.heap.size + 2) (5) (0) (0) (0) rfl rfl HO8.out ?_)
    intro w9 hput
    have HB9 : Hid (Below w.heap.size w w9) := hput.2.2.2 _ _ (by omega) HB8.out
    have zz := box5_cells (hput.far HZ8.out (by omega))
    have yy := box4_cells hput.1
    clear hput HB8 HO8 HZ8
    go_wp2
    refine bodyPost_ret (v := .tuple #[.agg #[.int .i64 a, .bool b, .int .i64 n, .int .i64 d, .string S], .agg #[.int .i64 5, .int .i64 0, .int .i64 0, .int .i64 0], .bool true]) (by simp only [results, Try.results45]; simp [go_sem, zz, yy]) rfl ⟨rfl, HB9.out⟩
  have q115 : (key == 115) = false := by simpa using k115
  by_cases k120 : key = 120
  · obtain rfl : ⟨⟨a, b, n, d, s⟩, 6, 0, 0, 0, true⟩ = r := by rw [← HR.out]; unfold topM; simp [k120]
    clear HR
    subst k120
    dsimp only [noP]
    try rw [hS]
    clear hS
    go_upto_region 13 with fail
    go_wp2_with (refine listStoreM rfl rfl _ _ _ rfl rfl (w.heap.size + 1) (a) (b) (n) (d) (S) rfl rfl HZ0.out ?_)
    intro w8 hput
    have HB8 : Hid (Below w.heap.size w w8) := hput.2.2.2 _ _ (Nat.le_succ _) HB0.out
    have HO8 : Hid (w8.heap[w.heap.size + 2]? = some (.cells #[.int .i64 0, .int .i64 0, .int .i64 0, .int .i64 0] 34)) := hput.far HO0.out (by omega)
    have HZ8 : Hid (w8.heap[w.heap.size + 1]? = some (.cells #[.int .i64 a, .bool b, .int .i64 n, .int .i64 d, .string S] 26)) := hput.1
    clear hput
    go_wp2_with (refine listStoreO rfl rfl _ _ _ rfl rfl (w.heap.size + 2) (6) (0) (0) (0) rfl rfl HO8.out ?_)
    intro w9 hput
    have HB9 : Hid (Below w.heap.size w w9) := hput.2.2.2 _ _ (by omega) HB8.out
    have zz := box5_cells (hput.far HZ8.out (by omega))
    have yy := box4_cells hput.1
    clear hput HB8 HO8 HZ8
    go_wp2
    refine bodyPost_ret (v := .tuple #[.agg #[.int .i64 a, .bool b, .int .i64 n, .int .i64 d, .string S], .agg #[.int .i64 6, .int .i64 0, .int .i64 0, .int .i64 0], .bool true]) (by simp only [results, Try.results45]; simp [go_sem, zz, yy]) rfl ⟨rfl, HB9.out⟩
  have q120 : (key == 120) = false := by simpa using k120
  obtain rfl : noP ⟨a, b, n, d, s⟩ = r := by rw [← HR.out]; unfold topM; simp [k98, k111, k112, k103, k115, k120]
  clear HR k98 k111 k112 k103 k115 k120
  dsimp only [noP]
  rw [hS]
  clear hS
  go_upto_region 14 with fail
  go_wp2_with (refine listStoreM rfl rfl _ _ _ rfl rfl (w.heap.size + 1) (a) (b) (n) (d) (S) rfl rfl HZ0.out ?_)
  intro w8 hput
  have HB8 : Hid (Below w.heap.size w w8) := hput.2.2.2 _ _ (Nat.le_succ _) HB0.out
  have HO8 : Hid (w8.heap[w.heap.size + 2]? = some (.cells #[.int .i64 0, .int .i64 0, .int .i64 0, .int .i64 0] 34)) := hput.far HO0.out (by omega)
  have HZ8 : Hid (w8.heap[w.heap.size + 1]? = some (.cells #[.int .i64 a, .bool b, .int .i64 n, .int .i64 d, .string S] 26)) := hput.1
  clear hput
  go_wp2_with (refine listStoreO rfl rfl _ _ _ rfl rfl (w.heap.size + 2) (0) (0) (0) (0) rfl rfl HO8.out ?_)
  intro w9 hput
  have HB9 : Hid (Below w.heap.size w w9) := hput.2.2.2 _ _ (by omega) HB8.out
  have zz := box5_cells (hput.far HZ8.out (by omega))
  have yy := box4_cells hput.1
  clear hput HB8 HO8 HZ8
  go_wp2
  refine bodyPost_ret (v := .tuple #[.agg #[.int .i64 a, .bool b, .int .i64 n, .int .i64 d, .string S], .agg #[.int .i64 0, .int .i64 0, .int .i64 0, .int .i64 0], .bool false]) (by simp only [results, Try.results45]; simp [go_sem, zz, yy]) rfl ⟨rfl, HB9.out⟩
end Go.Proofs.Ytjaimcmnndejgaa
