/- Type assertions at the six messages. -/
import Derived.Test.YtlhmdjaplcopoaaProg
import Derived.KernelRfl
import Derived.WalkKit
namespace Go.Proofs.Ytlhmdjaplcopoaa
open Go.RowKit
set_option linter.unusedVariables false

theorem Try.as_1_1 (v : Value) (W : World) : (Instr.typeAssert (.iface 78 v) 49 78 true).run Try.prog W = .ok (.tuple #[v, .bool true]) W := by kernel_rfl
theorem Try.as_1_2 (v : Value) (W : World) : (Instr.typeAssert (.iface 78 v) 49 79 true).run Try.prog W = .ok (.tuple #[.string ⟨#[]⟩, .bool false]) W := by kernel_rfl
theorem Try.as_1_3 (v : Value) (W : World) : (Instr.typeAssert (.iface 78 v) 49 53 true).run Try.prog W = .ok (.tuple #[.agg #[], .bool false]) W := by kernel_rfl
theorem Try.as_1_4 (v : Value) (W : World) : (Instr.typeAssert (.iface 78 v) 49 80 true).run Try.prog W = .ok (.tuple #[.string ⟨#[]⟩, .bool false]) W := by kernel_rfl
theorem Try.as_1_5 (v : Value) (W : World) : (Instr.typeAssert (.iface 78 v) 49 54 true).run Try.prog W = .ok (.tuple #[.int .i64 0, .bool false]) W := by kernel_rfl
theorem Try.as_1_6 (v : Value) (W : World) : (Instr.typeAssert (.iface 78 v) 49 81 true).run Try.prog W = .ok (.tuple #[.string ⟨#[]⟩, .bool false]) W := by kernel_rfl
theorem Try.as_2_1 (v : Value) (W : World) : (Instr.typeAssert (.iface 79 v) 49 78 true).run Try.prog W = .ok (.tuple #[.string ⟨#[]⟩, .bool false]) W := by kernel_rfl
theorem Try.as_2_2 (v : Value) (W : World) : (Instr.typeAssert (.iface 79 v) 49 79 true).run Try.prog W = .ok (.tuple #[v, .bool true]) W := by kernel_rfl
theorem Try.as_2_3 (v : Value) (W : World) : (Instr.typeAssert (.iface 79 v) 49 53 true).run Try.prog W = .ok (.tuple #[.agg #[], .bool false]) W := by kernel_rfl
theorem Try.as_2_4 (v : Value) (W : World) : (Instr.typeAssert (.iface 79 v) 49 80 true).run Try.prog W = .ok (.tuple #[.string ⟨#[]⟩, .bool false]) W := by kernel_rfl
theorem Try.as_2_5 (v : Value) (W : World) : (Instr.typeAssert (.iface 79 v) 49 54 true).run Try.prog W = .ok (.tuple #[.int .i64 0, .bool false]) W := by kernel_rfl
theorem Try.as_2_6 (v : Value) (W : World) : (Instr.typeAssert (.iface 79 v) 49 81 true).run Try.prog W = .ok (.tuple #[.string ⟨#[]⟩, .bool false]) W := by kernel_rfl
theorem Try.as_3_1 (v : Value) (W : World) : (Instr.typeAssert (.iface 53 v) 49 78 true).run Try.prog W = .ok (.tuple #[.string ⟨#[]⟩, .bool false]) W := by kernel_rfl
theorem Try.as_3_2 (v : Value) (W : World) : (Instr.typeAssert (.iface 53 v) 49 79 true).run Try.prog W = .ok (.tuple #[.string ⟨#[]⟩, .bool false]) W := by kernel_rfl
theorem Try.as_3_3 (v : Value) (W : World) : (Instr.typeAssert (.iface 53 v) 49 53 true).run Try.prog W = .ok (.tuple #[v, .bool true]) W := by kernel_rfl
theorem Try.as_3_4 (v : Value) (W : World) : (Instr.typeAssert (.iface 53 v) 49 80 true).run Try.prog W = .ok (.tuple #[.string ⟨#[]⟩, .bool false]) W := by kernel_rfl
theorem Try.as_3_5 (v : Value) (W : World) : (Instr.typeAssert (.iface 53 v) 49 54 true).run Try.prog W = .ok (.tuple #[.int .i64 0, .bool false]) W := by kernel_rfl
theorem Try.as_3_6 (v : Value) (W : World) : (Instr.typeAssert (.iface 53 v) 49 81 true).run Try.prog W = .ok (.tuple #[.string ⟨#[]⟩, .bool false]) W := by kernel_rfl
theorem Try.as_4_1 (v : Value) (W : World) : (Instr.typeAssert (.iface 80 v) 49 78 true).run Try.prog W = .ok (.tuple #[.string ⟨#[]⟩, .bool false]) W := by kernel_rfl
theorem Try.as_4_2 (v : Value) (W : World) : (Instr.typeAssert (.iface 80 v) 49 79 true).run Try.prog W = .ok (.tuple #[.string ⟨#[]⟩, .bool false]) W := by kernel_rfl
theorem Try.as_4_3 (v : Value) (W : World) : (Instr.typeAssert (.iface 80 v) 49 53 true).run Try.prog W = .ok (.tuple #[.agg #[], .bool false]) W := by kernel_rfl
theorem Try.as_4_4 (v : Value) (W : World) : (Instr.typeAssert (.iface 80 v) 49 80 true).run Try.prog W = .ok (.tuple #[v, .bool true]) W := by kernel_rfl
theorem Try.as_4_5 (v : Value) (W : World) : (Instr.typeAssert (.iface 80 v) 49 54 true).run Try.prog W = .ok (.tuple #[.int .i64 0, .bool false]) W := by kernel_rfl
theorem Try.as_4_6 (v : Value) (W : World) : (Instr.typeAssert (.iface 80 v) 49 81 true).run Try.prog W = .ok (.tuple #[.string ⟨#[]⟩, .bool false]) W := by kernel_rfl
theorem Try.as_5_1 (v : Value) (W : World) : (Instr.typeAssert (.iface 54 v) 49 78 true).run Try.prog W = .ok (.tuple #[.string ⟨#[]⟩, .bool false]) W := by kernel_rfl
theorem Try.as_5_2 (v : Value) (W : World) : (Instr.typeAssert (.iface 54 v) 49 79 true).run Try.prog W = .ok (.tuple #[.string ⟨#[]⟩, .bool false]) W := by kernel_rfl
theorem Try.as_5_3 (v : Value) (W : World) : (Instr.typeAssert (.iface 54 v) 49 53 true).run Try.prog W = .ok (.tuple #[.agg #[], .bool false]) W := by kernel_rfl
theorem Try.as_5_4 (v : Value) (W : World) : (Instr.typeAssert (.iface 54 v) 49 80 true).run Try.prog W = .ok (.tuple #[.string ⟨#[]⟩, .bool false]) W := by kernel_rfl
theorem Try.as_5_5 (v : Value) (W : World) : (Instr.typeAssert (.iface 54 v) 49 54 true).run Try.prog W = .ok (.tuple #[v, .bool true]) W := by kernel_rfl
theorem Try.as_5_6 (v : Value) (W : World) : (Instr.typeAssert (.iface 54 v) 49 81 true).run Try.prog W = .ok (.tuple #[.string ⟨#[]⟩, .bool false]) W := by kernel_rfl
theorem Try.as_6_1 (v : Value) (W : World) : (Instr.typeAssert (.iface 81 v) 49 78 true).run Try.prog W = .ok (.tuple #[.string ⟨#[]⟩, .bool false]) W := by kernel_rfl
theorem Try.as_6_2 (v : Value) (W : World) : (Instr.typeAssert (.iface 81 v) 49 79 true).run Try.prog W = .ok (.tuple #[.string ⟨#[]⟩, .bool false]) W := by kernel_rfl
theorem Try.as_6_3 (v : Value) (W : World) : (Instr.typeAssert (.iface 81 v) 49 53 true).run Try.prog W = .ok (.tuple #[.agg #[], .bool false]) W := by kernel_rfl
theorem Try.as_6_4 (v : Value) (W : World) : (Instr.typeAssert (.iface 81 v) 49 80 true).run Try.prog W = .ok (.tuple #[.string ⟨#[]⟩, .bool false]) W := by kernel_rfl
theorem Try.as_6_5 (v : Value) (W : World) : (Instr.typeAssert (.iface 81 v) 49 54 true).run Try.prog W = .ok (.tuple #[.int .i64 0, .bool false]) W := by kernel_rfl
theorem Try.as_6_6 (v : Value) (W : World) : (Instr.typeAssert (.iface 81 v) 49 81 true).run Try.prog W = .ok (.tuple #[v, .bool true]) W := by kernel_rfl
theorem Try.as_0_1 (W : World) : (Instr.typeAssert .nilIface 49 78 true).run Try.prog W = .ok (.tuple #[.string ⟨#[]⟩, .bool false]) W := by kernel_rfl
theorem Try.as_0_2 (W : World) : (Instr.typeAssert .nilIface 49 79 true).run Try.prog W = .ok (.tuple #[.string ⟨#[]⟩, .bool false]) W := by kernel_rfl
theorem Try.as_0_3 (W : World) : (Instr.typeAssert .nilIface 49 53 true).run Try.prog W = .ok (.tuple #[.agg #[], .bool false]) W := by kernel_rfl
theorem Try.as_0_4 (W : World) : (Instr.typeAssert .nilIface 49 80 true).run Try.prog W = .ok (.tuple #[.string ⟨#[]⟩, .bool false]) W := by kernel_rfl
theorem Try.as_0_5 (W : World) : (Instr.typeAssert .nilIface 49 54 true).run Try.prog W = .ok (.tuple #[.int .i64 0, .bool false]) W := by kernel_rfl
theorem Try.as_0_6 (W : World) : (Instr.typeAssert .nilIface 49 81 true).run Try.prog W = .ok (.tuple #[.string ⟨#[]⟩, .bool false]) W := by kernel_rfl

end Go.Proofs.Ytlhmdjaplcopoaa
