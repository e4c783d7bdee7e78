/- Type assertions at the six messages. -/
import Derived.Test.YtcelkmphdeaaeaaProg
import Derived.KernelRfl
import Derived.WalkKit
namespace Go.Proofs.Ytcelkmphdeaaeaa
open Go.RowKit
set_option linter.unusedVariables false

theorem Try.as_1_1 (v : Value) (W : World) : (Instr.typeAssert (.iface 125 v) 94 125 true).run Try.prog W = .ok (.tuple #[v, .bool true]) W := by kernel_rfl
theorem Try.as_1_2 (v : Value) (W : World) : (Instr.typeAssert (.iface 125 v) 94 126 true).run Try.prog W = .ok (.tuple #[.string ⟨#[]⟩, .bool false]) W := by kernel_rfl
theorem Try.as_1_3 (v : Value) (W : World) : (Instr.typeAssert (.iface 125 v) 94 98 true).run Try.prog W = .ok (.tuple #[.agg #[], .bool false]) W := by kernel_rfl
theorem Try.as_1_4 (v : Value) (W : World) : (Instr.typeAssert (.iface 125 v) 94 127 true).run Try.prog W = .ok (.tuple #[.string ⟨#[]⟩, .bool false]) W := by kernel_rfl
theorem Try.as_1_5 (v : Value) (W : World) : (Instr.typeAssert (.iface 125 v) 94 99 true).run Try.prog W = .ok (.tuple #[.int .i64 0, .bool false]) W := by kernel_rfl
theorem Try.as_1_6 (v : Value) (W : World) : (Instr.typeAssert (.iface 125 v) 94 128 true).run Try.prog W = .ok (.tuple #[.string ⟨#[]⟩, .bool false]) W := by kernel_rfl
theorem Try.as_2_1 (v : Value) (W : World) : (Instr.typeAssert (.iface 126 v) 94 125 true).run Try.prog W = .ok (.tuple #[.string ⟨#[]⟩, .bool false]) W := by kernel_rfl
theorem Try.as_2_2 (v : Value) (W : World) : (Instr.typeAssert (.iface 126 v) 94 126 true).run Try.prog W = .ok (.tuple #[v, .bool true]) W := by kernel_rfl
theorem Try.as_2_3 (v : Value) (W : World) : (Instr.typeAssert (.iface 126 v) 94 98 true).run Try.prog W = .ok (.tuple #[.agg #[], .bool false]) W := by kernel_rfl
theorem Try.as_2_4 (v : Value) (W : World) : (Instr.typeAssert (.iface 126 v) 94 127 true).run Try.prog W = .ok (.tuple #[.string ⟨#[]⟩, .bool false]) W := by kernel_rfl
theorem Try.as_2_5 (v : Value) (W : World) : (Instr.typeAssert (.iface 126 v) 94 99 true).run Try.prog W = .ok (.tuple #[.int .i64 0, .bool false]) W := by kernel_rfl
theorem Try.as_2_6 (v : Value) (W : World) : (Instr.typeAssert (.iface 126 v) 94 128 true).run Try.prog W = .ok (.tuple #[.string ⟨#[]⟩, .bool false]) W := by kernel_rfl
theorem Try.as_3_1 (v : Value) (W : World) : (Instr.typeAssert (.iface 98 v) 94 125 true).run Try.prog W = .ok (.tuple #[.string ⟨#[]⟩, .bool false]) W := by kernel_rfl
theorem Try.as_3_2 (v : Value) (W : World) : (Instr.typeAssert (.iface 98 v) 94 126 true).run Try.prog W = .ok (.tuple #[.string ⟨#[]⟩, .bool false]) W := by kernel_rfl
theorem Try.as_3_3 (v : Value) (W : World) : (Instr.typeAssert (.iface 98 v) 94 98 true).run Try.prog W = .ok (.tuple #[v, .bool true]) W := by kernel_rfl
theorem Try.as_3_4 (v : Value) (W : World) : (Instr.typeAssert (.iface 98 v) 94 127 true).run Try.prog W = .ok (.tuple #[.string ⟨#[]⟩, .bool false]) W := by kernel_rfl
theorem Try.as_3_5 (v : Value) (W : World) : (Instr.typeAssert (.iface 98 v) 94 99 true).run Try.prog W = .ok (.tuple #[.int .i64 0, .bool false]) W := by kernel_rfl
theorem Try.as_3_6 (v : Value) (W : World) : (Instr.typeAssert (.iface 98 v) 94 128 true).run Try.prog W = .ok (.tuple #[.string ⟨#[]⟩, .bool false]) W := by kernel_rfl
theorem Try.as_4_1 (v : Value) (W : World) : (Instr.typeAssert (.iface 127 v) 94 125 true).run Try.prog W = .ok (.tuple #[.string ⟨#[]⟩, .bool false]) W := by kernel_rfl
theorem Try.as_4_2 (v : Value) (W : World) : (Instr.typeAssert (.iface 127 v) 94 126 true).run Try.prog W = .ok (.tuple #[.string ⟨#[]⟩, .bool false]) W := by kernel_rfl
theorem Try.as_4_3 (v : Value) (W : World) : (Instr.typeAssert (.iface 127 v) 94 98 true).run Try.prog W = .ok (.tuple #[.agg #[], .bool false]) W := by kernel_rfl
theorem Try.as_4_4 (v : Value) (W : World) : (Instr.typeAssert (.iface 127 v) 94 127 true).run Try.prog W = .ok (.tuple #[v, .bool true]) W := by kernel_rfl
theorem Try.as_4_5 (v : Value) (W : World) : (Instr.typeAssert (.iface 127 v) 94 99 true).run Try.prog W = .ok (.tuple #[.int .i64 0, .bool false]) W := by kernel_rfl
theorem Try.as_4_6 (v : Value) (W : World) : (Instr.typeAssert (.iface 127 v) 94 128 true).run Try.prog W = .ok (.tuple #[.string ⟨#[]⟩, .bool false]) W := by kernel_rfl
theorem Try.as_5_1 (v : Value) (W : World) : (Instr.typeAssert (.iface 99 v) 94 125 true).run Try.prog W = .ok (.tuple #[.string ⟨#[]⟩, .bool false]) W := by kernel_rfl
theorem Try.as_5_2 (v : Value) (W : World) : (Instr.typeAssert (.iface 99 v) 94 126 true).run Try.prog W = .ok (.tuple #[.string ⟨#[]⟩, .bool false]) W := by kernel_rfl
theorem Try.as_5_3 (v : Value) (W : World) : (Instr.typeAssert (.iface 99 v) 94 98 true).run Try.prog W = .ok (.tuple #[.agg #[], .bool false]) W := by kernel_rfl
theorem Try.as_5_4 (v : Value) (W : World) : (Instr.typeAssert (.iface 99 v) 94 127 true).run Try.prog W = .ok (.tuple #[.string ⟨#[]⟩, .bool false]) W := by kernel_rfl
theorem Try.as_5_5 (v : Value) (W : World) : (Instr.typeAssert (.iface 99 v) 94 99 true).run Try.prog W = .ok (.tuple #[v, .bool true]) W := by kernel_rfl
theorem Try.as_5_6 (v : Value) (W : World) : (Instr.typeAssert (.iface 99 v) 94 128 true).run Try.prog W = .ok (.tuple #[.string ⟨#[]⟩, .bool false]) W := by kernel_rfl
theorem Try.as_6_1 (v : Value) (W : World) : (Instr.typeAssert (.iface 128 v) 94 125 true).run Try.prog W = .ok (.tuple #[.string ⟨#[]⟩, .bool false]) W := by kernel_rfl
theorem Try.as_6_2 (v : Value) (W : World) : (Instr.typeAssert (.iface 128 v) 94 126 true).run Try.prog W = .ok (.tuple #[.string ⟨#[]⟩, .bool false]) W := by kernel_rfl
theorem Try.as_6_3 (v : Value) (W : World) : (Instr.typeAssert (.iface 128 v) 94 98 true).run Try.prog W = .ok (.tuple #[.agg #[], .bool false]) W := by kernel_rfl
theorem Try.as_6_4 (v : Value) (W : World) : (Instr.typeAssert (.iface 128 v) 94 127 true).run Try.prog W = .ok (.tuple #[.string ⟨#[]⟩, .bool false]) W := by kernel_rfl
theorem Try.as_6_5 (v : Value) (W : World) : (Instr.typeAssert (.iface 128 v) 94 99 true).run Try.prog W = .ok (.tuple #[.int .i64 0, .bool false]) W := by kernel_rfl
theorem Try.as_6_6 (v : Value) (W : World) : (Instr.typeAssert (.iface 128 v) 94 128 true).run Try.prog W = .ok (.tuple #[v, .bool true]) W := by kernel_rfl
theorem Try.as_0_1 (W : World) : (Instr.typeAssert .nilIface 94 125 true).run Try.prog W = .ok (.tuple #[.string ⟨#[]⟩, .bool false]) W := by kernel_rfl
theorem Try.as_0_2 (W : World) : (Instr.typeAssert .nilIface 94 126 true).run Try.prog W = .ok (.tuple #[.string ⟨#[]⟩, .bool false]) W := by kernel_rfl
theorem Try.as_0_3 (W : World) : (Instr.typeAssert .nilIface 94 98 true).run Try.prog W = .ok (.tuple #[.agg #[], .bool false]) W := by kernel_rfl
theorem Try.as_0_4 (W : World) : (Instr.typeAssert .nilIface 94 127 true).run Try.prog W = .ok (.tuple #[.string ⟨#[]⟩, .bool false]) W := by kernel_rfl
theorem Try.as_0_5 (W : World) : (Instr.typeAssert .nilIface 94 99 true).run Try.prog W = .ok (.tuple #[.int .i64 0, .bool false]) W := by kernel_rfl
theorem Try.as_0_6 (W : World) : (Instr.typeAssert .nilIface 94 128 true).run Try.prog W = .ok (.tuple #[.string ⟨#[]⟩, .bool false]) W := by kernel_rfl

end Go.Proofs.Ytcelkmphdeaaeaa
