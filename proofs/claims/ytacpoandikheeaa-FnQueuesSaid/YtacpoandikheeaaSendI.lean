/-
  What is sent: the program's sendOver.
-/
import Derived.Test.YtacpoandikheeaaAppM
import Derived.Test.YtacpoandikheeaaPortI
namespace Go.Proofs.Ytacpoandikheeaa
open Go.RowKit Go.PlainAid
set_option linter.unusedVariables false

abbrev PZ : Value := .agg #[.int .i64 0, .int .i64 0, .int .i64 0, .int .i64 0, .int .i64 0]
theorem taQ (k f t m fr : Int) (w : World) : (Instr.typeAssert (.iface 73 (PV k f t m fr)) 56 73 true).run Try.prog w = .ok (.tuple #[PV k f t m fr, .bool true]) w := by kernel_rfl
theorem taSQ (k f t m fr : Int) (w : World) : (Instr.typeAssert (.iface 74 (PV k f t m fr)) 56 73 true).run Try.prog w = .ok (.tuple #[PZ, .bool false]) w := by kernel_rfl
theorem taS (k f t m fr : Int) (w : World) : (Instr.typeAssert (.iface 74 (PV k f t m fr)) 56 74 true).run Try.prog w = .ok (.tuple #[PV k f t m fr, .bool true]) w := by kernel_rfl

theorem al5_5 (w : World) (a b c d e : Obj) : (((((w.alloc a).alloc b).alloc c).alloc d).alloc e).heap[w.heap.size + 1 + 1 + 1 + 1]? = some e := by
  have := heap_new ((((w.alloc a).alloc b).alloc c).alloc d) e
  simpa using this

set_option maxRecDepth 100000 in
set_option maxHeartbeats 2000000 in
/-- a queue that has room -/
theorem sendQ (f t m fr x y : Int) (g n : Nat) (l : List (Int × Int)) (hl : l.length = n) (hn : n ≤ 1048576) (hroom : (n : Int) < m) (w : World) (h : RowR w g l) :
    Calls Try.prog 27 #[.iface 73 (PV 1 f t m fr), .agg #[.slice (some ⟨g, 0, none⟩) n n], .agg #[.int .i64 x, .int .i64 y]] w fun e w' => ∃ g' c', e = .returned (.tuple #[.agg #[.slice (some ⟨g', 0, none⟩) (n + 1) c'], .int .i64 0]) ∧ OwnM w' w.heap.size (some ⟨g', 0, none⟩) (l ++ [(x, y)]) ∧ Below w.heap.size w w' := by
  have HR : Hid (RowR w g l) := h
  have HL : Hid (l.length = n) := hl
  have ta := taQ 1 f t m fr
  have HB0 : Hid (Below w.heap.size w (((((w.alloc (.cells #[.slice (some ⟨g, 0, none⟩) n n] 30)).alloc (.cells #[.int .i64 x, .int .i64 y] 52)).alloc (.cells #[.slice none 0 0] 30)).alloc (.cells #[.int .i64 1, .int .i64 f, .int .i64 t, .int .i64 m, .int .i64 fr] 73)).alloc (.cells #[.int .i64 x, .int .i64 y] 52))) := (al3_b w _ _ _).trans ((al2_b _ _ _).mono (al3_b w _ _ _).size)
  have HZ0 : Hid ((((((w.alloc (.cells #[.slice (some ⟨g, 0, none⟩) n n] 30)).alloc (.cells #[.int .i64 x, .int .i64 y] 52)).alloc (.cells #[.slice none 0 0] 30)).alloc (.cells #[.int .i64 1, .int .i64 f, .int .i64 t, .int .i64 m, .int .i64 fr] 73)).alloc (.cells #[.int .i64 x, .int .i64 y] 52)).heap[w.heap.size + 1 + 1]? = some (.cells #[.slice none 0 0] 30)) := row_on (al3_3 w (.cells #[.slice (some ⟨g, 0, none⟩) n n] 30) (.cells #[.int .i64 x, .int .i64 y] 52) (.cells #[.slice none 0 0] 30)) (al2_b _ (.cells #[.int .i64 1, .int .i64 f, .int .i64 t, .int .i64 m, .int .i64 fr] 73) (.cells #[.int .i64 x, .int .i64 y] 52))
  have HR1 : Hid (RdR (((((w.alloc (.cells #[.slice (some ⟨g, 0, none⟩) n n] 30)).alloc (.cells #[.int .i64 x, .int .i64 y] 52)).alloc (.cells #[.slice none 0 0] 30)).alloc (.cells #[.int .i64 1, .int .i64 f, .int .i64 t, .int .i64 m, .int .i64 fr] 73)).alloc (.cells #[.int .i64 x, .int .i64 y] 52)) (some ⟨w.heap.size + 1 + 1 + 1 + 1, 0, none⟩) [(x, y)]) := by have h := (one_row ((((w.alloc (.cells #[.slice (some ⟨g, 0, none⟩) n n] 30)).alloc (.cells #[.int .i64 x, .int .i64 y] 52)).alloc (.cells #[.slice none 0 0] 30)).alloc (.cells #[.int .i64 1, .int .i64 f, .int .i64 t, .int .i64 m, .int .i64 fr] 73)) x y).rd; simpa [Hid] using h
  clear h hl
  go_enter Try.func27, Try.ntmps27
  go_wp2_with (at_builtin; refine listG rfl _ _ rfl n n l ⟨g, 0, none⟩ ⟨w.heap.size + 1 + 1 + 1 + 1, 0, none⟩ 1 1 [(x, y)] rfl rfl HL.out (HR.out.rd.on HB0.out) rfl HR1.out (by omega) (by omega) ?_)
  intro g' c' w1 hown hb1
  have HZ : Hid (_ = _) := row_after HZ0.out hb1 (by omega)
  have HW : Hid (Below w.heap.size w w1) := HB0.out.trans (hb1.mono (by omega))
  have HO : Hid (OwnM w1 w.heap.size (some ⟨g', 0, none⟩) (l ++ [(x, y)])) := hown.own.mono (by omega)
  have ky := row1_cells HZ.out
  clear hown hb1 HB0 HR HL HZ0 HR1
  go_wp2
  refine bodyPost_ret (v := .tuple #[.agg #[.slice (some ⟨g', 0, none⟩) (n + 1) c'], .int .i64 0]) (by simp [results, Try.results27, go_sem, ky]) rfl ⟨g', c', rfl, HO.out.put HZ.out (by decide), HW.out.setCell (by simp; omega) _⟩

set_option maxRecDepth 100000 in
set_option maxHeartbeats 2000000 in
/-- a queue that is full -/
theorem sendF (f t m fr x y : Int) (g n : Nat) (hroom : ¬ (n : Int) < m) (w : World) :
    Calls Try.prog 27 #[.iface 73 (PV 1 f t m fr), .agg #[.slice (some ⟨g, 0, none⟩) n n], .agg #[.int .i64 x, .int .i64 y]] w fun e w' => e = .returned (.tuple #[.agg #[.slice (some ⟨g, 0, none⟩) n n], .int .i64 1]) ∧ Below w.heap.size w w' := by
  have ta := taQ 1 f t m fr
  go_enter Try.func27, Try.ntmps27
  go_wp2
  refine bodyPost_ret (v := .tuple #[.agg #[.slice (some ⟨g, 0, none⟩) n n], .int .i64 1]) (by simp [results, Try.results27, go_sem]) rfl ⟨rfl, ?_⟩
  exact (al3_b w _ _ _).trans ((al1_b _ _).mono (al3_b w _ _ _).size)

set_option maxRecDepth 100000 in
set_option maxHeartbeats 2000000 in
/-- a port that samples -/
theorem sendS (f t m fr x y : Int) (g n : Nat) (w : World) :
    Calls Try.prog 27 #[.iface 74 (PV 2 f t m fr), .agg #[.slice (some ⟨g, 0, none⟩) n n], .agg #[.int .i64 x, .int .i64 y]] w fun e w' => ∃ g', e = .returned (.tuple #[.agg #[.slice (some ⟨g', 0, none⟩) 1 1], .int .i64 0]) ∧ OwnM w' w.heap.size (some ⟨g', 0, none⟩) [(x, y)] ∧ Below w.heap.size w w' := by
  have ta := taSQ 2 f t m fr
  have tb := taS 2 f t m fr
  go_enter Try.func27, Try.ntmps27
  go_wp2
  refine bodyPost_ret (v := .tuple #[.agg #[.slice (some ⟨w.heap.size + 1 + 1 + 1 + 1, 0, none⟩) 1 1], .int .i64 0]) (by simp [results, Try.results27, go_sem]) rfl ⟨_, rfl, ?_, (al3_b w _ _ _).trans ((al2_b _ _ _).mono (al3_b w _ _ _).size)⟩
  refine RowR.own ?_ (by omega)
  exact al5_5 w _ _ _ _ _
end Go.Proofs.Ytacpoandikheeaa
