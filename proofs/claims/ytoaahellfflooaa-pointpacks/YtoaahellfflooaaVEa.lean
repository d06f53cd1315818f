/-
  SEAT Ytoaahellfflooaa.
-/
import Derived.Laws.StructEq
import Derived.Test.YtoaahellfflooaaVPx
namespace Go.Proofs.Ytoaahellfflooaa
open Go.RowKit
set_option linter.unusedVariables false

theorem und52 : Try.prog.underlying 52 = some (.struct (Try.prog.fieldsOf 52)) := by kernel_rfl
theorem held52 : Try.prog.stoodInHeld 52 = false := by kernel_rfl
theorem fs52 : (Try.prog.fieldsOf 52).toList.map (fun f => (f.type, f.offset, f.name)) = [(3, 0, "Block"), (3, 1, "Page")] := by kernel_rfl
theorem fx52 : ∃ f0 f1, (Try.prog.fieldsOf 52).toList = [f0, f1] ∧ (f0.type = 3 ∧ f0.offset = 0 ∧ f0.name = "Block") ∧ (f1.type = 3 ∧ f1.offset = 1 ∧ f1.name = "Page") := by
  have h := fs52
  rcases h1 : (Try.prog.fieldsOf 52).toList with _ | ⟨f0, _ | ⟨f1, _ | ⟨x, r⟩⟩⟩ <;> rw [h1] at h <;> simp at h
  exact ⟨f0, f1, rfl, ⟨h.1.1, h.1.2.1, h.1.2.2⟩, ⟨h.2.1, h.2.2.1, h.2.2.2⟩⟩
theorem und48 : Try.prog.underlying 48 = some (.struct (Try.prog.fieldsOf 48)) := by kernel_rfl
theorem held48 : Try.prog.stoodInHeld 48 = false := by kernel_rfl
theorem fs48 : (Try.prog.fieldsOf 48).toList.map (fun f => (f.type, f.offset, f.name)) = [(3, 0, "State"), (23, 1, "Head"), (4, 2, "Real"), (3, 3, "Live")] := by kernel_rfl
theorem fx48 : ∃ f0 f1 f2 f3, (Try.prog.fieldsOf 48).toList = [f0, f1, f2, f3] ∧ (f0.type = 3 ∧ f0.offset = 0 ∧ f0.name = "State") ∧ (f1.type = 23 ∧ f1.offset = 1 ∧ f1.name = "Head") ∧ (f2.type = 4 ∧ f2.offset = 2 ∧ f2.name = "Real") ∧ (f3.type = 3 ∧ f3.offset = 3 ∧ f3.name = "Live") := by
  have h := fs48
  rcases h1 : (Try.prog.fieldsOf 48).toList with _ | ⟨f0, _ | ⟨f1, _ | ⟨f2, _ | ⟨f3, _ | ⟨x, r⟩⟩⟩⟩⟩ <;> rw [h1] at h <;> simp at h
  exact ⟨f0, f1, f2, f3, rfl, ⟨h.1.1, h.1.2.1, h.1.2.2⟩, ⟨h.2.1.1, h.2.1.2.1, h.2.1.2.2⟩, ⟨h.2.2.1.1, h.2.2.1.2.1, h.2.2.1.2.2⟩, ⟨h.2.2.2.1, h.2.2.2.2.1, h.2.2.2.2.2⟩⟩
theorem und50 : Try.prog.underlying 50 = some (.struct (Try.prog.fieldsOf 50)) := by kernel_rfl
theorem held50 : Try.prog.stoodInHeld 50 = false := by kernel_rfl
theorem fs50 : (Try.prog.fieldsOf 50).toList.map (fun f => (f.type, f.offset, f.name)) = [(3, 0, "Type"), (3, 1, "Parent"), (9, 2, "Name"), (3, 3, "Size"), (3, 4, "Mode"), (23, 5, "Stamp"), (3, 6, "Shadow"), (9, 7, "Target")] := by kernel_rfl
theorem fx50 : ∃ f0 f1 f2 f3 f4 f5 f6 f7, (Try.prog.fieldsOf 50).toList = [f0, f1, f2, f3, f4, f5, f6, f7] ∧ (f0.type = 3 ∧ f0.offset = 0 ∧ f0.name = "Type") ∧ (f1.type = 3 ∧ f1.offset = 1 ∧ f1.name = "Parent") ∧ (f2.type = 9 ∧ f2.offset = 2 ∧ f2.name = "Name") ∧ (f3.type = 3 ∧ f3.offset = 3 ∧ f3.name = "Size") ∧ (f4.type = 3 ∧ f4.offset = 4 ∧ f4.name = "Mode") ∧ (f5.type = 23 ∧ f5.offset = 5 ∧ f5.name = "Stamp") ∧ (f6.type = 3 ∧ f6.offset = 6 ∧ f6.name = "Shadow") ∧ (f7.type = 9 ∧ f7.offset = 7 ∧ f7.name = "Target") := by
  have h := fs50
  rcases h1 : (Try.prog.fieldsOf 50).toList with _ | ⟨f0, _ | ⟨f1, _ | ⟨f2, _ | ⟨f3, _ | ⟨f4, _ | ⟨f5, _ | ⟨f6, _ | ⟨f7, _ | ⟨x, r⟩⟩⟩⟩⟩⟩⟩⟩⟩ <;> rw [h1] at h <;> simp at h
  exact ⟨f0, f1, f2, f3, f4, f5, f6, f7, rfl, ⟨h.1.1, h.1.2.1, h.1.2.2⟩, ⟨h.2.1.1, h.2.1.2.1, h.2.1.2.2⟩, ⟨h.2.2.1.1, h.2.2.1.2.1, h.2.2.1.2.2⟩, ⟨h.2.2.2.1.1, h.2.2.2.1.2.1, h.2.2.2.1.2.2⟩, ⟨h.2.2.2.2.1.1, h.2.2.2.2.1.2.1, h.2.2.2.2.1.2.2⟩, ⟨h.2.2.2.2.2.1.1, h.2.2.2.2.2.1.2.1, h.2.2.2.2.2.1.2.2⟩, ⟨h.2.2.2.2.2.2.1.1, h.2.2.2.2.2.2.1.2.1, h.2.2.2.2.2.2.1.2.2⟩, ⟨h.2.2.2.2.2.2.2.1, h.2.2.2.2.2.2.2.2.1, h.2.2.2.2.2.2.2.2.2⟩⟩
theorem und69 : Try.prog.underlying 69 = some (.struct (Try.prog.fieldsOf 69)) := by kernel_rfl
theorem held69 : Try.prog.stoodInHeld 69 = false := by kernel_rfl
theorem fs69 : (Try.prog.fieldsOf 69).toList.map (fun f => (f.type, f.offset, f.name)) = [(52, 0, "Place"), (3, 2, "Count")] := by kernel_rfl
theorem fx69 : ∃ f0 f1, (Try.prog.fieldsOf 69).toList = [f0, f1] ∧ (f0.type = 52 ∧ f0.offset = 0 ∧ f0.name = "Place") ∧ (f1.type = 3 ∧ f1.offset = 2 ∧ f1.name = "Count") := by
  have h := fs69
  rcases h1 : (Try.prog.fieldsOf 69).toList with _ | ⟨f0, _ | ⟨f1, _ | ⟨x, r⟩⟩⟩ <;> rw [h1] at h <;> simp at h
  exact ⟨f0, f1, rfl, ⟨h.1.1, h.1.2.1, h.1.2.2⟩, ⟨h.2.1, h.2.2.1, h.2.2.2⟩⟩
theorem und71 : Try.prog.underlying 71 = some (.struct (Try.prog.fieldsOf 71)) := by kernel_rfl
theorem held71 : Try.prog.stoodInHeld 71 = false := by kernel_rfl
theorem fs71 : (Try.prog.fieldsOf 71).toList.map (fun f => (f.type, f.offset, f.name)) = [(3, 0, "Chunk"), (69, 1, "Piece")] := by kernel_rfl
theorem fx71 : ∃ f0 f1, (Try.prog.fieldsOf 71).toList = [f0, f1] ∧ (f0.type = 3 ∧ f0.offset = 0 ∧ f0.name = "Chunk") ∧ (f1.type = 69 ∧ f1.offset = 1 ∧ f1.name = "Piece") := by
  have h := fs71
  rcases h1 : (Try.prog.fieldsOf 71).toList with _ | ⟨f0, _ | ⟨f1, _ | ⟨x, r⟩⟩⟩ <;> rw [h1] at h <;> simp at h
  exact ⟨f0, f1, rfl, ⟨h.1.1, h.1.2.1, h.1.2.2⟩, ⟨h.2.1, h.2.2.1, h.2.2.2⟩⟩
set_option maxHeartbeats 2000000 in
theorem in52 (w : World) (d : Nat) (a0 b0 : Int) (a1 b1 : Int) : (Op.equalIn (d + 2) 52 (.agg #[.int .i64 a0, .int .i64 a1]) (.agg #[.int .i64 b0, .int .i64 b1])).run Try.prog w = .ok ((a0 == b0) && (a1 == b1)) w := by
  obtain ⟨f0, f1, h1, ⟨t0, o0, n0⟩, ⟨t1, o1, n1⟩⟩ := fx52
  rw [run_equalIn_struct w (d + 1) 52 _ _ und52 held52, h1]
  simp only [Op.eqFields, t0, o0, n0, t1, o1, n1]
  simp [part, go_sem, Try.underlying3]
  by_cases g0 : a0 = b0
  rotate_left
  · simp [g0]
  by_cases g1 : a1 = b1
  rotate_left
  · simp [g1]
  simp [g0, g1]
theorem eq52 (w : World) (a0 b0 : Int) (a1 b1 : Int) : (binOp .eql 52 (.agg #[.int .i64 a0, .int .i64 a1]) (.agg #[.int .i64 b0, .int .i64 b1])).run Try.prog w = .ok (.bool ((a0 == b0) && (a1 == b1))) w := by
  rw [run_eql_struct, in52]; rfl
theorem ne52 (w : World) (a0 b0 : Int) (a1 b1 : Int) : (binOp .neq 52 (.agg #[.int .i64 a0, .int .i64 a1]) (.agg #[.int .i64 b0, .int .i64 b1])).run Try.prog w = .ok (.bool (!((a0 == b0) && (a1 == b1)))) w := by
  rw [run_neq_struct, in52]; rfl
theorem gd52 (op : BinOp) (w : World) (x y : Operand) (xs ys : Array Value) : (eqGuard op 52 x y (.agg xs) (.agg ys)).run Try.prog w = .ok () w := run_eqGuard_agg w op 52 x y xs ys (by kernel_rfl)
set_option maxHeartbeats 2000000 in
theorem in48 (w : World) (d : Nat) (a0 b0 : Int) (a1 b1 : Int) (a2 b2 : Bool) (a3 b3 : Int) : (Op.equalIn (d + 2) 48 (.agg #[.int .i64 a0, .int .u64 a1, .bool a2, .int .i64 a3]) (.agg #[.int .i64 b0, .int .u64 b1, .bool b2, .int .i64 b3])).run Try.prog w = .ok ((a0 == b0) && ((a1 == b1) && ((a2 == b2) && (a3 == b3)))) w := by
  obtain ⟨f0, f1, f2, f3, h1, ⟨t0, o0, n0⟩, ⟨t1, o1, n1⟩, ⟨t2, o2, n2⟩, ⟨t3, o3, n3⟩⟩ := fx48
  rw [run_equalIn_struct w (d + 1) 48 _ _ und48 held48, h1]
  simp only [Op.eqFields, t0, o0, n0, t1, o1, n1, t2, o2, n2, t3, o3, n3]
  simp [part, go_sem, Try.underlying3, Try.underlying4, Try.underlying23]
  by_cases g0 : a0 = b0
  rotate_left
  · simp [g0]
  by_cases g1 : a1 = b1
  rotate_left
  · simp [g1]
  by_cases g2 : a2 = b2
  rotate_left
  · simp [g2]
  by_cases g3 : a3 = b3
  rotate_left
  · simp [g3]
  simp [g0, g1, g2, g3]
theorem eq48 (w : World) (a0 b0 : Int) (a1 b1 : Int) (a2 b2 : Bool) (a3 b3 : Int) : (binOp .eql 48 (.agg #[.int .i64 a0, .int .u64 a1, .bool a2, .int .i64 a3]) (.agg #[.int .i64 b0, .int .u64 b1, .bool b2, .int .i64 b3])).run Try.prog w = .ok (.bool ((a0 == b0) && ((a1 == b1) && ((a2 == b2) && (a3 == b3))))) w := by
  rw [run_eql_struct, in48]; rfl
theorem ne48 (w : World) (a0 b0 : Int) (a1 b1 : Int) (a2 b2 : Bool) (a3 b3 : Int) : (binOp .neq 48 (.agg #[.int .i64 a0, .int .u64 a1, .bool a2, .int .i64 a3]) (.agg #[.int .i64 b0, .int .u64 b1, .bool b2, .int .i64 b3])).run Try.prog w = .ok (.bool (!((a0 == b0) && ((a1 == b1) && ((a2 == b2) && (a3 == b3)))))) w := by
  rw [run_neq_struct, in48]; rfl
theorem gd48 (op : BinOp) (w : World) (x y : Operand) (xs ys : Array Value) : (eqGuard op 48 x y (.agg xs) (.agg ys)).run Try.prog w = .ok () w := run_eqGuard_agg w op 48 x y xs ys (by kernel_rfl)
set_option maxHeartbeats 2000000 in
theorem in50 (w : World) (d : Nat) (a0 b0 : Int) (a1 b1 : Int) (a2 b2 : ByteArray) (a3 b3 : Int) (a4 b4 : Int) (a5 b5 : Int) (a6 b6 : Int) (a7 b7 : ByteArray) : (Op.equalIn (d + 2) 50 (.agg #[.int .i64 a0, .int .i64 a1, .string a2, .int .i64 a3, .int .i64 a4, .int .u64 a5, .int .i64 a6, .string a7]) (.agg #[.int .i64 b0, .int .i64 b1, .string b2, .int .i64 b3, .int .i64 b4, .int .u64 b5, .int .i64 b6, .string b7])).run Try.prog w = .ok ((a0 == b0) && ((a1 == b1) && ((a2.toList == b2.toList) && ((a3 == b3) && ((a4 == b4) && ((a5 == b5) && ((a6 == b6) && (a7.toList == b7.toList)))))))) w := by
  obtain ⟨f0, f1, f2, f3, f4, f5, f6, f7, h1, ⟨t0, o0, n0⟩, ⟨t1, o1, n1⟩, ⟨t2, o2, n2⟩, ⟨t3, o3, n3⟩, ⟨t4, o4, n4⟩, ⟨t5, o5, n5⟩, ⟨t6, o6, n6⟩, ⟨t7, o7, n7⟩⟩ := fx50
  rw [run_equalIn_struct w (d + 1) 50 _ _ und50 held50, h1]
  simp only [Op.eqFields, t0, o0, n0, t1, o1, n1, t2, o2, n2, t3, o3, n3, t4, o4, n4, t5, o5, n5, t6, o6, n6, t7, o7, n7]
  simp [part, go_sem, Try.underlying3, Try.underlying9, Try.underlying23]
  by_cases g0 : a0 = b0
  rotate_left
  · simp [g0]
  by_cases g1 : a1 = b1
  rotate_left
  · simp [g1]
  by_cases g2 : a2.toList = b2.toList
  rotate_left
  · simp [g2]
  by_cases g3 : a3 = b3
  rotate_left
  · simp [g3]
  by_cases g4 : a4 = b4
  rotate_left
  · simp [g4]
  by_cases g5 : a5 = b5
  rotate_left
  · simp [g5]
  by_cases g6 : a6 = b6
  rotate_left
  · simp [g6]
  by_cases g7 : a7.toList = b7.toList
  rotate_left
  · simp [g7]
  simp [g0, g1, g2, g3, g4, g5, g6, g7]
theorem eq50 (w : World) (a0 b0 : Int) (a1 b1 : Int) (a2 b2 : ByteArray) (a3 b3 : Int) (a4 b4 : Int) (a5 b5 : Int) (a6 b6 : Int) (a7 b7 : ByteArray) : (binOp .eql 50 (.agg #[.int .i64 a0, .int .i64 a1, .string a2, .int .i64 a3, .int .i64 a4, .int .u64 a5, .int .i64 a6, .string a7]) (.agg #[.int .i64 b0, .int .i64 b1, .string b2, .int .i64 b3, .int .i64 b4, .int .u64 b5, .int .i64 b6, .string b7])).run Try.prog w = .ok (.bool ((a0 == b0) && ((a1 == b1) && ((a2.toList == b2.toList) && ((a3 == b3) && ((a4 == b4) && ((a5 == b5) && ((a6 == b6) && (a7.toList == b7.toList))))))))) w := by
  rw [run_eql_struct, in50]; rfl
theorem ne50 (w : World) (a0 b0 : Int) (a1 b1 : Int) (a2 b2 : ByteArray) (a3 b3 : Int) (a4 b4 : Int) (a5 b5 : Int) (a6 b6 : Int) (a7 b7 : ByteArray) : (binOp .neq 50 (.agg #[.int .i64 a0, .int .i64 a1, .string a2, .int .i64 a3, .int .i64 a4, .int .u64 a5, .int .i64 a6, .string a7]) (.agg #[.int .i64 b0, .int .i64 b1, .string b2, .int .i64 b3, .int .i64 b4, .int .u64 b5, .int .i64 b6, .string b7])).run Try.prog w = .ok (.bool (!((a0 == b0) && ((a1 == b1) && ((a2.toList == b2.toList) && ((a3 == b3) && ((a4 == b4) && ((a5 == b5) && ((a6 == b6) && (a7.toList == b7.toList)))))))))) w := by
  rw [run_neq_struct, in50]; rfl
theorem gd50 (op : BinOp) (w : World) (x y : Operand) (xs ys : Array Value) : (eqGuard op 50 x y (.agg xs) (.agg ys)).run Try.prog w = .ok () w := run_eqGuard_agg w op 50 x y xs ys (by kernel_rfl)
theorem gd71 (op : BinOp) (w : World) (x y : Operand) (xs ys : Array Value) : (eqGuard op 71 x y (.agg xs) (.agg ys)).run Try.prog w = .ok () w := run_eqGuard_agg w op 71 x y xs ys (by kernel_rfl)
theorem ne71 (w : World) (a b c d : Int) : (binOp .neq 71 (.agg #[.int .i64 a, .int .i64 b, .int .i64 c, .int .i64 d]) (.agg #[.int .i64 a, .int .i64 b, .int .i64 c, .int .i64 d])).run Try.prog w = .ok (.bool false) w := by
  obtain ⟨f, g, h1, ⟨t0, o0, n0⟩, ⟨t1, o1, n1⟩⟩ := fx71
  obtain ⟨f2, g2, h2, ⟨t2, o2, n2⟩, ⟨t3, o3, n3⟩⟩ := fx69
  obtain ⟨i69, hi69⟩ : ∃ i, Try.prog.info? 69 = some i := Option.isSome_iff_exists.1 (by kernel_rfl)
  obtain ⟨i52, hi52⟩ : ∃ i, Try.prog.info? 52 = some i := Option.isSome_iff_exists.1 (by kernel_rfl)
  have s69 : Try.prog.cellsOf 69 = 3 := by kernel_rfl
  have s52 : Try.prog.cellsOf 52 = 2 := by kernel_rfl
  have u69 : Try.prog.underlying 69 = some (.struct (Try.prog.fieldsOf 69)) := und69
  have p69 : (part 69 #[.int .i64 a, .int .i64 b, .int .i64 c, .int .i64 d] 1).run Try.prog w = .ok (.agg #[.int .i64 b, .int .i64 c, .int .i64 d]) w := by
    simp [part, isAgg, run_underlying u69]
  have p52 : (part 52 #[.int .i64 b, .int .i64 c, .int .i64 d] 0).run Try.prog w = .ok (.agg #[.int .i64 b, .int .i64 c]) w := by
    simp [part, isAgg, run_underlying und52]
  rw [run_neq_struct, run_equalIn_struct w 9999 71 _ _ und71 held71, h1]
  simp only [Op.eqFields, t0, o0, n0, t1, o1, n1]
  have e69 : (Op.equalIn 9999 69 (.agg #[.int .i64 b, .int .i64 c, .int .i64 d]) (.agg #[.int .i64 b, .int .i64 c, .int .i64 d])).run Try.prog w = .ok true w := by
    rw [run_equalIn_struct w 9998 69 _ _ und69 held69, h2]
    simp only [Op.eqFields, t2, o2, n2, t3, o3, n3]
    have e52 := in52 w 9996 b b c c
    have m1 : ("Place" : String) ≠ "_" := by decide
    have m2 : ("Count" : String) ≠ "_" := by decide
    simp only [if_pos m1, if_pos m2, Sem.run_bind, p52, Result.andThen_ok, e52]
    simp [part, go_sem, Try.underlying3]
  have m1 : ("Chunk" : String) ≠ "_" := by decide
  have m2 : ("Piece" : String) ≠ "_" := by decide
  have p3 : (part 3 #[.int .i64 a, .int .i64 b, .int .i64 c, .int .i64 d] 0).run Try.prog w = .ok (.int .i64 a) w := by simp [part, go_sem]
  have e3 : (Op.equalIn 9999 3 (.int .i64 a) (.int .i64 a)).run Try.prog w = .ok true w := by rw [run_equalIn_int w 9998 3 .i64 .i64 a a Try.underlying3]; simp
  simp [Sem.run_bind, p3, e3, p69, e69]
end Go.Proofs.Ytoaahellfflooaa
