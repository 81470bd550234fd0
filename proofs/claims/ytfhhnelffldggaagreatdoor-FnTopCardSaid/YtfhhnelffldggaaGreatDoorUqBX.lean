/-
  Pumps and menus held against one another by '=='.
-/
import Derived.Test.YtfhhnelffldggaaGreatDoorUqAC
import Derived.Laws.StructEq
set_option maxRecDepth 100000
set_option maxHeartbeats 16000000
namespace Go.Proofs.YtfhhnelffldggaaGreatDoor
open Go.ChangeShapes Go.WideShapes Go.ChangeAt Go.RowKit Go.PlainAid
set_option linter.unusedVariables false
set_option linter.unusedSimpArgs false
theorem pmpU : Tryz.prog.underlying 29 = some (.struct (Tryz.prog.fieldsOf 29)) := by kernel_rfl
theorem pmpH : Tryz.prog.stoodInHeld 29 = false := by kernel_rfl
theorem pmpG : Tryz.prog.eqGuardType Tryz.prog.depth 29 = false := by kernel_rfl
theorem ratU : Tryz.prog.underlying 27 = some (.struct (Tryz.prog.fieldsOf 27)) := by kernel_rfl
theorem ratH : Tryz.prog.stoodInHeld 27 = false := by kernel_rfl
theorem rat_same (m : Nat) (n d r : Int) (w : World) : (Op.equalIn (m + 5) 27 (.agg #[.int .i64 n, .int .i64 d, .int .i64 r]) (.agg #[.int .i64 n, .int .i64 d, .int .i64 r])).run Tryz.prog w = .ok true w := by
  rw [run_equalIn_agg _ _ _ _ _ ratU ratH]
  have hf : (Tryz.prog.fieldsOf 27).toList.map (fun f => (f.name == "_", f.type, f.offset)) = [(false, 3, 0), (false, 3, 1), (false, 3, 2)] := by kernel_rfl
  have hu := Tryz.underlying3
  generalize (Tryz.prog.fieldsOf 27).toList = fs at hf ⊢
  have hlen : fs.length = 3 := by simpa using congrArg List.length hf
  match fs, hlen, hf with
  | [f0, f1, f2], _, hf =>
    simp at hf
    obtain ⟨⟨a0, a1, a2⟩, ⟨b0, b1, b2⟩, ⟨c0, c1, c2⟩⟩ := hf
    simp [Op.eqFields, go_sem, a0, a1, a2, b0, b1, b2, c0, c1, c2, hu, run_equalIn_int _ _ _ _ _ _ _ hu]
theorem rat_part (s n d r l b g k : Int) (w : World) : (part 27 #[.int .i64 s, .int .i64 n, .int .i64 d, .int .i64 r, .int .i64 l, .int .i64 b, .int .i64 g, .int .i64 k] 1).run Tryz.prog w = .ok (.agg #[.int .i64 n, .int .i64 d, .int .i64 r]) w := by kernel_rfl
theorem pmp_same (s n d r l b g k : Int) (w : World) : (Op.equalIn 10000 29 (.agg #[.int .i64 s, .int .i64 n, .int .i64 d, .int .i64 r, .int .i64 l, .int .i64 b, .int .i64 g, .int .i64 k]) (.agg #[.int .i64 s, .int .i64 n, .int .i64 d, .int .i64 r, .int .i64 l, .int .i64 b, .int .i64 g, .int .i64 k])).run Tryz.prog w = .ok true w := by
  rw [run_equalIn_agg _ _ _ _ _ pmpU pmpH]
  have hf : (Tryz.prog.fieldsOf 29).toList.map (fun f => (f.name == "_", f.type, f.offset)) = [(false, 3, 0), (false, 27, 1), (false, 3, 4), (false, 3, 5), (false, 3, 6), (false, 3, 7)] := by kernel_rfl
  have hu := Tryz.underlying3
  generalize (Tryz.prog.fieldsOf 29).toList = fs at hf ⊢
  have hlen : fs.length = 6 := by simpa using congrArg List.length hf
  match fs, hlen, hf with
  | [f0, f1, f2, f3, f4, f5], _, hf =>
    simp at hf
    obtain ⟨⟨a0, a1, a2⟩, ⟨b0, b1, b2⟩, ⟨c0, c1, c2⟩, ⟨d0, d1, d2⟩, ⟨e0, e1, e2⟩, ⟨g0, g1, g2⟩⟩ := hf
    have hr := rat_part s n d r l b g k
    have hs := rat_same 9994 n d r
    simp [Op.eqFields, go_sem, a0, a1, a2, b0, b1, b2, c0, c1, c2, d0, d1, d2, e0, e1, e2, g0, g1, g2, hu, hr, hs, run_equalIn_int _ _ _ _ _ _ _ hu]
theorem pmp_eql (s n d r l b g k : Int) (w : World) : (binOp .eql 29 (.agg #[.int .i64 s, .int .i64 n, .int .i64 d, .int .i64 r, .int .i64 l, .int .i64 b, .int .i64 g, .int .i64 k]) (.agg #[.int .i64 s, .int .i64 n, .int .i64 d, .int .i64 r, .int .i64 l, .int .i64 b, .int .i64 g, .int .i64 k])).run Tryz.prog w = .ok (.bool true) w := by
  rw [run_eql_struct, pmp_same]; rfl
end Go.Proofs.YtfhhnelffldggaaGreatDoor
