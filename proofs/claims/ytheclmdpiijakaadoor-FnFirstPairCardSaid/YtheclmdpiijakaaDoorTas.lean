/-
  Type assertions on the values of statements: each kind against each other one.
-/
import Derived.Test.YtheclmdpiijakaaDoorBase
namespace Go.Proofs.YtheclmdpiijakaaDoor
open Go.RowKit

theorem tas_asg_skip (v : Value) (W : World) : (Instr.typeAssert (.iface 180 v) 89 167 true).run Tryd.prog W = .ok (.tuple #[.agg #[.string ⟨#[]⟩, .int .u8 0, .slice none 0 0], .bool false]) W := by kernel_rfl
theorem tas_asg_asg (v : Value) (W : World) : (Instr.typeAssert (.iface 167 v) 89 167 true).run Tryd.prog W = .ok (.tuple #[v, .bool true]) W := by kernel_rfl
theorem tas_asg_seq (v : Value) (W : World) : (Instr.typeAssert (.iface 130 v) 89 167 true).run Tryd.prog W = .ok (.tuple #[.agg #[.string ⟨#[]⟩, .int .u8 0, .slice none 0 0], .bool false]) W := by kernel_rfl
theorem tas_asg_ite (v : Value) (W : World) : (Instr.typeAssert (.iface 139 v) 89 167 true).run Tryd.prog W = .ok (.tuple #[.agg #[.string ⟨#[]⟩, .int .u8 0, .slice none 0 0], .bool false]) W := by kernel_rfl
theorem tas_asg_whl (v : Value) (W : World) : (Instr.typeAssert (.iface 143 v) 89 167 true).run Tryd.prog W = .ok (.tuple #[.agg #[.string ⟨#[]⟩, .int .u8 0, .slice none 0 0], .bool false]) W := by kernel_rfl
theorem tas_asg_cho (v : Value) (W : World) : (Instr.typeAssert (.iface 168 v) 89 167 true).run Tryd.prog W = .ok (.tuple #[.agg #[.string ⟨#[]⟩, .int .u8 0, .slice none 0 0], .bool false]) W := by kernel_rfl
theorem tas_asg_asm (v : Value) (W : World) : (Instr.typeAssert (.iface 170 v) 89 167 true).run Tryd.prog W = .ok (.tuple #[.agg #[.string ⟨#[]⟩, .int .u8 0, .slice none 0 0], .bool false]) W := by kernel_rfl
theorem tas_seq_skip (v : Value) (W : World) : (Instr.typeAssert (.iface 180 v) 89 130 true).run Tryd.prog W = .ok (.tuple #[.agg #[.nilIface, .nilIface], .bool false]) W := by kernel_rfl
theorem tas_seq_asg (v : Value) (W : World) : (Instr.typeAssert (.iface 167 v) 89 130 true).run Tryd.prog W = .ok (.tuple #[.agg #[.nilIface, .nilIface], .bool false]) W := by kernel_rfl
theorem tas_seq_seq (v : Value) (W : World) : (Instr.typeAssert (.iface 130 v) 89 130 true).run Tryd.prog W = .ok (.tuple #[v, .bool true]) W := by kernel_rfl
theorem tas_seq_ite (v : Value) (W : World) : (Instr.typeAssert (.iface 139 v) 89 130 true).run Tryd.prog W = .ok (.tuple #[.agg #[.nilIface, .nilIface], .bool false]) W := by kernel_rfl
theorem tas_seq_whl (v : Value) (W : World) : (Instr.typeAssert (.iface 143 v) 89 130 true).run Tryd.prog W = .ok (.tuple #[.agg #[.nilIface, .nilIface], .bool false]) W := by kernel_rfl
theorem tas_seq_cho (v : Value) (W : World) : (Instr.typeAssert (.iface 168 v) 89 130 true).run Tryd.prog W = .ok (.tuple #[.agg #[.nilIface, .nilIface], .bool false]) W := by kernel_rfl
theorem tas_seq_asm (v : Value) (W : World) : (Instr.typeAssert (.iface 170 v) 89 130 true).run Tryd.prog W = .ok (.tuple #[.agg #[.nilIface, .nilIface], .bool false]) W := by kernel_rfl
theorem tas_ite_skip (v : Value) (W : World) : (Instr.typeAssert (.iface 180 v) 89 139 true).run Tryd.prog W = .ok (.tuple #[.agg #[.int .u8 0, .slice none 0 0, .nilIface, .nilIface], .bool false]) W := by kernel_rfl
theorem tas_ite_asg (v : Value) (W : World) : (Instr.typeAssert (.iface 167 v) 89 139 true).run Tryd.prog W = .ok (.tuple #[.agg #[.int .u8 0, .slice none 0 0, .nilIface, .nilIface], .bool false]) W := by kernel_rfl
theorem tas_ite_seq (v : Value) (W : World) : (Instr.typeAssert (.iface 130 v) 89 139 true).run Tryd.prog W = .ok (.tuple #[.agg #[.int .u8 0, .slice none 0 0, .nilIface, .nilIface], .bool false]) W := by kernel_rfl
theorem tas_ite_ite (v : Value) (W : World) : (Instr.typeAssert (.iface 139 v) 89 139 true).run Tryd.prog W = .ok (.tuple #[v, .bool true]) W := by kernel_rfl
theorem tas_ite_whl (v : Value) (W : World) : (Instr.typeAssert (.iface 143 v) 89 139 true).run Tryd.prog W = .ok (.tuple #[.agg #[.int .u8 0, .slice none 0 0, .nilIface, .nilIface], .bool false]) W := by kernel_rfl
theorem tas_ite_cho (v : Value) (W : World) : (Instr.typeAssert (.iface 168 v) 89 139 true).run Tryd.prog W = .ok (.tuple #[.agg #[.int .u8 0, .slice none 0 0, .nilIface, .nilIface], .bool false]) W := by kernel_rfl
theorem tas_ite_asm (v : Value) (W : World) : (Instr.typeAssert (.iface 170 v) 89 139 true).run Tryd.prog W = .ok (.tuple #[.agg #[.int .u8 0, .slice none 0 0, .nilIface, .nilIface], .bool false]) W := by kernel_rfl
theorem tas_whl_skip (v : Value) (W : World) : (Instr.typeAssert (.iface 180 v) 89 143 true).run Tryd.prog W = .ok (.tuple #[.agg #[.int .u8 0, .slice none 0 0, .nilIface], .bool false]) W := by kernel_rfl
theorem tas_whl_asg (v : Value) (W : World) : (Instr.typeAssert (.iface 167 v) 89 143 true).run Tryd.prog W = .ok (.tuple #[.agg #[.int .u8 0, .slice none 0 0, .nilIface], .bool false]) W := by kernel_rfl
theorem tas_whl_seq (v : Value) (W : World) : (Instr.typeAssert (.iface 130 v) 89 143 true).run Tryd.prog W = .ok (.tuple #[.agg #[.int .u8 0, .slice none 0 0, .nilIface], .bool false]) W := by kernel_rfl
theorem tas_whl_ite (v : Value) (W : World) : (Instr.typeAssert (.iface 139 v) 89 143 true).run Tryd.prog W = .ok (.tuple #[.agg #[.int .u8 0, .slice none 0 0, .nilIface], .bool false]) W := by kernel_rfl
theorem tas_whl_whl (v : Value) (W : World) : (Instr.typeAssert (.iface 143 v) 89 143 true).run Tryd.prog W = .ok (.tuple #[v, .bool true]) W := by kernel_rfl
theorem tas_whl_cho (v : Value) (W : World) : (Instr.typeAssert (.iface 168 v) 89 143 true).run Tryd.prog W = .ok (.tuple #[.agg #[.int .u8 0, .slice none 0 0, .nilIface], .bool false]) W := by kernel_rfl
theorem tas_whl_asm (v : Value) (W : World) : (Instr.typeAssert (.iface 170 v) 89 143 true).run Tryd.prog W = .ok (.tuple #[.agg #[.int .u8 0, .slice none 0 0, .nilIface], .bool false]) W := by kernel_rfl
theorem tas_cho_skip (v : Value) (W : World) : (Instr.typeAssert (.iface 180 v) 89 168 true).run Tryd.prog W = .ok (.tuple #[.agg #[.nilIface, .nilIface], .bool false]) W := by kernel_rfl
theorem tas_cho_asg (v : Value) (W : World) : (Instr.typeAssert (.iface 167 v) 89 168 true).run Tryd.prog W = .ok (.tuple #[.agg #[.nilIface, .nilIface], .bool false]) W := by kernel_rfl
theorem tas_cho_seq (v : Value) (W : World) : (Instr.typeAssert (.iface 130 v) 89 168 true).run Tryd.prog W = .ok (.tuple #[.agg #[.nilIface, .nilIface], .bool false]) W := by kernel_rfl
theorem tas_cho_ite (v : Value) (W : World) : (Instr.typeAssert (.iface 139 v) 89 168 true).run Tryd.prog W = .ok (.tuple #[.agg #[.nilIface, .nilIface], .bool false]) W := by kernel_rfl
theorem tas_cho_whl (v : Value) (W : World) : (Instr.typeAssert (.iface 143 v) 89 168 true).run Tryd.prog W = .ok (.tuple #[.agg #[.nilIface, .nilIface], .bool false]) W := by kernel_rfl
theorem tas_cho_cho (v : Value) (W : World) : (Instr.typeAssert (.iface 168 v) 89 168 true).run Tryd.prog W = .ok (.tuple #[v, .bool true]) W := by kernel_rfl
theorem tas_cho_asm (v : Value) (W : World) : (Instr.typeAssert (.iface 170 v) 89 168 true).run Tryd.prog W = .ok (.tuple #[.agg #[.nilIface, .nilIface], .bool false]) W := by kernel_rfl
theorem tas_asm_skip (v : Value) (W : World) : (Instr.typeAssert (.iface 180 v) 89 170 true).run Tryd.prog W = .ok (.tuple #[.agg #[.int .u8 0, .slice none 0 0], .bool false]) W := by kernel_rfl
theorem tas_asm_asg (v : Value) (W : World) : (Instr.typeAssert (.iface 167 v) 89 170 true).run Tryd.prog W = .ok (.tuple #[.agg #[.int .u8 0, .slice none 0 0], .bool false]) W := by kernel_rfl
theorem tas_asm_seq (v : Value) (W : World) : (Instr.typeAssert (.iface 130 v) 89 170 true).run Tryd.prog W = .ok (.tuple #[.agg #[.int .u8 0, .slice none 0 0], .bool false]) W := by kernel_rfl
theorem tas_asm_ite (v : Value) (W : World) : (Instr.typeAssert (.iface 139 v) 89 170 true).run Tryd.prog W = .ok (.tuple #[.agg #[.int .u8 0, .slice none 0 0], .bool false]) W := by kernel_rfl
theorem tas_asm_whl (v : Value) (W : World) : (Instr.typeAssert (.iface 143 v) 89 170 true).run Tryd.prog W = .ok (.tuple #[.agg #[.int .u8 0, .slice none 0 0], .bool false]) W := by kernel_rfl
theorem tas_asm_cho (v : Value) (W : World) : (Instr.typeAssert (.iface 168 v) 89 170 true).run Tryd.prog W = .ok (.tuple #[.agg #[.int .u8 0, .slice none 0 0], .bool false]) W := by kernel_rfl
theorem tas_asm_asm (v : Value) (W : World) : (Instr.typeAssert (.iface 170 v) 89 170 true).run Tryd.prog W = .ok (.tuple #[v, .bool true]) W := by kernel_rfl
end Go.Proofs.YtheclmdpiijakaaDoor
