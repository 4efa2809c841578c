/- Texts of the proof, put together: Asrt. No conditions. -/
import Derived.Test.YtmfmagfgcdaeeaaGreatProg
import Derived.KernelRfl
import Derived.WalkKit

/- Closed facts: which dynamic type a type switch meets. -/
namespace Go.Proofs.YtmfmagfgcdaeeaaGreat.T1
@[go_sem] theorem ta_nothing_nothing (v : Value) (w : World) : (Instr.typeAssert (.iface 132 v) 43 132 true).run Tryz.prog w = .ok (.tuple #[v, .bool true]) w := by kernel_rfl
@[go_sem] theorem ta_nothing_send (v : Value) (w : World) : (Instr.typeAssert (.iface 132 v) 43 144 true).run Tryz.prog w = .ok (.tuple #[.agg #[.int .u8 0, .int .u8 0, .nilIface], .bool false]) w := by kernel_rfl
@[go_sem] theorem ta_nothing_receive (v : Value) (w : World) : (Instr.typeAssert (.iface 132 v) 43 142 true).run Tryz.prog w = .ok (.tuple #[.agg #[.int .u8 0, .int .u8 0, .nilIface], .bool false]) w := by kernel_rfl
@[go_sem] theorem ta_nothing_silent (v : Value) (w : World) : (Instr.typeAssert (.iface 132 v) 43 147 true).run Tryz.prog w = .ok (.tuple #[.agg #[.nilIface], .bool false]) w := by kernel_rfl
@[go_sem] theorem ta_nothing_choice (v : Value) (w : World) : (Instr.typeAssert (.iface 132 v) 43 93 true).run Tryz.prog w = .ok (.tuple #[.agg #[.nilIface, .nilIface], .bool false]) w := by kernel_rfl
@[go_sem] theorem ta_nothing_beside (v : Value) (w : World) : (Instr.typeAssert (.iface 132 v) 43 92 true).run Tryz.prog w = .ok (.tuple #[.agg #[.nilIface, .nilIface], .bool false]) w := by kernel_rfl
@[go_sem] theorem ta_nothing_own (v : Value) (w : World) : (Instr.typeAssert (.iface 132 v) 43 100 true).run Tryz.prog w = .ok (.tuple #[.agg #[.int .u8 0, .nilIface], .bool false]) w := by kernel_rfl
@[go_sem] theorem ta_nothing_match (v : Value) (w : World) : (Instr.typeAssert (.iface 132 v) 43 146 true).run Tryz.prog w = .ok (.tuple #[.agg #[.int .u8 0, .int .u8 0, .nilIface], .bool false]) w := by kernel_rfl
@[go_sem] theorem ta_nothing_repeat (v : Value) (w : World) : (Instr.typeAssert (.iface 132 v) 43 103 true).run Tryz.prog w = .ok (.tuple #[.agg #[.nilIface], .bool false]) w := by kernel_rfl
@[go_sem] theorem ta_send_nothing (v : Value) (w : World) : (Instr.typeAssert (.iface 144 v) 43 132 true).run Tryz.prog w = .ok (.tuple #[.agg #[], .bool false]) w := by kernel_rfl
@[go_sem] theorem ta_send_send (v : Value) (w : World) : (Instr.typeAssert (.iface 144 v) 43 144 true).run Tryz.prog w = .ok (.tuple #[v, .bool true]) w := by kernel_rfl
@[go_sem] theorem ta_send_receive (v : Value) (w : World) : (Instr.typeAssert (.iface 144 v) 43 142 true).run Tryz.prog w = .ok (.tuple #[.agg #[.int .u8 0, .int .u8 0, .nilIface], .bool false]) w := by kernel_rfl
@[go_sem] theorem ta_send_silent (v : Value) (w : World) : (Instr.typeAssert (.iface 144 v) 43 147 true).run Tryz.prog w = .ok (.tuple #[.agg #[.nilIface], .bool false]) w := by kernel_rfl
@[go_sem] theorem ta_send_choice (v : Value) (w : World) : (Instr.typeAssert (.iface 144 v) 43 93 true).run Tryz.prog w = .ok (.tuple #[.agg #[.nilIface, .nilIface], .bool false]) w := by kernel_rfl
@[go_sem] theorem ta_send_beside (v : Value) (w : World) : (Instr.typeAssert (.iface 144 v) 43 92 true).run Tryz.prog w = .ok (.tuple #[.agg #[.nilIface, .nilIface], .bool false]) w := by kernel_rfl
@[go_sem] theorem ta_send_own (v : Value) (w : World) : (Instr.typeAssert (.iface 144 v) 43 100 true).run Tryz.prog w = .ok (.tuple #[.agg #[.int .u8 0, .nilIface], .bool false]) w := by kernel_rfl
@[go_sem] theorem ta_send_match (v : Value) (w : World) : (Instr.typeAssert (.iface 144 v) 43 146 true).run Tryz.prog w = .ok (.tuple #[.agg #[.int .u8 0, .int .u8 0, .nilIface], .bool false]) w := by kernel_rfl
@[go_sem] theorem ta_send_repeat (v : Value) (w : World) : (Instr.typeAssert (.iface 144 v) 43 103 true).run Tryz.prog w = .ok (.tuple #[.agg #[.nilIface], .bool false]) w := by kernel_rfl
@[go_sem] theorem ta_receive_nothing (v : Value) (w : World) : (Instr.typeAssert (.iface 142 v) 43 132 true).run Tryz.prog w = .ok (.tuple #[.agg #[], .bool false]) w := by kernel_rfl
@[go_sem] theorem ta_receive_send (v : Value) (w : World) : (Instr.typeAssert (.iface 142 v) 43 144 true).run Tryz.prog w = .ok (.tuple #[.agg #[.int .u8 0, .int .u8 0, .nilIface], .bool false]) w := by kernel_rfl
@[go_sem] theorem ta_receive_receive (v : Value) (w : World) : (Instr.typeAssert (.iface 142 v) 43 142 true).run Tryz.prog w = .ok (.tuple #[v, .bool true]) w := by kernel_rfl
@[go_sem] theorem ta_receive_silent (v : Value) (w : World) : (Instr.typeAssert (.iface 142 v) 43 147 true).run Tryz.prog w = .ok (.tuple #[.agg #[.nilIface], .bool false]) w := by kernel_rfl
@[go_sem] theorem ta_receive_choice (v : Value) (w : World) : (Instr.typeAssert (.iface 142 v) 43 93 true).run Tryz.prog w = .ok (.tuple #[.agg #[.nilIface, .nilIface], .bool false]) w := by kernel_rfl
@[go_sem] theorem ta_receive_beside (v : Value) (w : World) : (Instr.typeAssert (.iface 142 v) 43 92 true).run Tryz.prog w = .ok (.tuple #[.agg #[.nilIface, .nilIface], .bool false]) w := by kernel_rfl
@[go_sem] theorem ta_receive_own (v : Value) (w : World) : (Instr.typeAssert (.iface 142 v) 43 100 true).run Tryz.prog w = .ok (.tuple #[.agg #[.int .u8 0, .nilIface], .bool false]) w := by kernel_rfl
@[go_sem] theorem ta_receive_match (v : Value) (w : World) : (Instr.typeAssert (.iface 142 v) 43 146 true).run Tryz.prog w = .ok (.tuple #[.agg #[.int .u8 0, .int .u8 0, .nilIface], .bool false]) w := by kernel_rfl
@[go_sem] theorem ta_receive_repeat (v : Value) (w : World) : (Instr.typeAssert (.iface 142 v) 43 103 true).run Tryz.prog w = .ok (.tuple #[.agg #[.nilIface], .bool false]) w := by kernel_rfl
@[go_sem] theorem ta_silent_nothing (v : Value) (w : World) : (Instr.typeAssert (.iface 147 v) 43 132 true).run Tryz.prog w = .ok (.tuple #[.agg #[], .bool false]) w := by kernel_rfl
@[go_sem] theorem ta_silent_send (v : Value) (w : World) : (Instr.typeAssert (.iface 147 v) 43 144 true).run Tryz.prog w = .ok (.tuple #[.agg #[.int .u8 0, .int .u8 0, .nilIface], .bool false]) w := by kernel_rfl
@[go_sem] theorem ta_silent_receive (v : Value) (w : World) : (Instr.typeAssert (.iface 147 v) 43 142 true).run Tryz.prog w = .ok (.tuple #[.agg #[.int .u8 0, .int .u8 0, .nilIface], .bool false]) w := by kernel_rfl
@[go_sem] theorem ta_silent_silent (v : Value) (w : World) : (Instr.typeAssert (.iface 147 v) 43 147 true).run Tryz.prog w = .ok (.tuple #[v, .bool true]) w := by kernel_rfl
@[go_sem] theorem ta_silent_choice (v : Value) (w : World) : (Instr.typeAssert (.iface 147 v) 43 93 true).run Tryz.prog w = .ok (.tuple #[.agg #[.nilIface, .nilIface], .bool false]) w := by kernel_rfl
@[go_sem] theorem ta_silent_beside (v : Value) (w : World) : (Instr.typeAssert (.iface 147 v) 43 92 true).run Tryz.prog w = .ok (.tuple #[.agg #[.nilIface, .nilIface], .bool false]) w := by kernel_rfl
@[go_sem] theorem ta_silent_own (v : Value) (w : World) : (Instr.typeAssert (.iface 147 v) 43 100 true).run Tryz.prog w = .ok (.tuple #[.agg #[.int .u8 0, .nilIface], .bool false]) w := by kernel_rfl
@[go_sem] theorem ta_silent_match (v : Value) (w : World) : (Instr.typeAssert (.iface 147 v) 43 146 true).run Tryz.prog w = .ok (.tuple #[.agg #[.int .u8 0, .int .u8 0, .nilIface], .bool false]) w := by kernel_rfl
@[go_sem] theorem ta_silent_repeat (v : Value) (w : World) : (Instr.typeAssert (.iface 147 v) 43 103 true).run Tryz.prog w = .ok (.tuple #[.agg #[.nilIface], .bool false]) w := by kernel_rfl
@[go_sem] theorem ta_choice_nothing (v : Value) (w : World) : (Instr.typeAssert (.iface 93 v) 43 132 true).run Tryz.prog w = .ok (.tuple #[.agg #[], .bool false]) w := by kernel_rfl
@[go_sem] theorem ta_choice_send (v : Value) (w : World) : (Instr.typeAssert (.iface 93 v) 43 144 true).run Tryz.prog w = .ok (.tuple #[.agg #[.int .u8 0, .int .u8 0, .nilIface], .bool false]) w := by kernel_rfl
@[go_sem] theorem ta_choice_receive (v : Value) (w : World) : (Instr.typeAssert (.iface 93 v) 43 142 true).run Tryz.prog w = .ok (.tuple #[.agg #[.int .u8 0, .int .u8 0, .nilIface], .bool false]) w := by kernel_rfl
@[go_sem] theorem ta_choice_silent (v : Value) (w : World) : (Instr.typeAssert (.iface 93 v) 43 147 true).run Tryz.prog w = .ok (.tuple #[.agg #[.nilIface], .bool false]) w := by kernel_rfl
@[go_sem] theorem ta_choice_choice (v : Value) (w : World) : (Instr.typeAssert (.iface 93 v) 43 93 true).run Tryz.prog w = .ok (.tuple #[v, .bool true]) w := by kernel_rfl
@[go_sem] theorem ta_choice_beside (v : Value) (w : World) : (Instr.typeAssert (.iface 93 v) 43 92 true).run Tryz.prog w = .ok (.tuple #[.agg #[.nilIface, .nilIface], .bool false]) w := by kernel_rfl
@[go_sem] theorem ta_choice_own (v : Value) (w : World) : (Instr.typeAssert (.iface 93 v) 43 100 true).run Tryz.prog w = .ok (.tuple #[.agg #[.int .u8 0, .nilIface], .bool false]) w := by kernel_rfl
@[go_sem] theorem ta_choice_match (v : Value) (w : World) : (Instr.typeAssert (.iface 93 v) 43 146 true).run Tryz.prog w = .ok (.tuple #[.agg #[.int .u8 0, .int .u8 0, .nilIface], .bool false]) w := by kernel_rfl
@[go_sem] theorem ta_choice_repeat (v : Value) (w : World) : (Instr.typeAssert (.iface 93 v) 43 103 true).run Tryz.prog w = .ok (.tuple #[.agg #[.nilIface], .bool false]) w := by kernel_rfl
@[go_sem] theorem ta_beside_nothing (v : Value) (w : World) : (Instr.typeAssert (.iface 92 v) 43 132 true).run Tryz.prog w = .ok (.tuple #[.agg #[], .bool false]) w := by kernel_rfl
@[go_sem] theorem ta_beside_send (v : Value) (w : World) : (Instr.typeAssert (.iface 92 v) 43 144 true).run Tryz.prog w = .ok (.tuple #[.agg #[.int .u8 0, .int .u8 0, .nilIface], .bool false]) w := by kernel_rfl
@[go_sem] theorem ta_beside_receive (v : Value) (w : World) : (Instr.typeAssert (.iface 92 v) 43 142 true).run Tryz.prog w = .ok (.tuple #[.agg #[.int .u8 0, .int .u8 0, .nilIface], .bool false]) w := by kernel_rfl
@[go_sem] theorem ta_beside_silent (v : Value) (w : World) : (Instr.typeAssert (.iface 92 v) 43 147 true).run Tryz.prog w = .ok (.tuple #[.agg #[.nilIface], .bool false]) w := by kernel_rfl
@[go_sem] theorem ta_beside_choice (v : Value) (w : World) : (Instr.typeAssert (.iface 92 v) 43 93 true).run Tryz.prog w = .ok (.tuple #[.agg #[.nilIface, .nilIface], .bool false]) w := by kernel_rfl
@[go_sem] theorem ta_beside_beside (v : Value) (w : World) : (Instr.typeAssert (.iface 92 v) 43 92 true).run Tryz.prog w = .ok (.tuple #[v, .bool true]) w := by kernel_rfl
@[go_sem] theorem ta_beside_own (v : Value) (w : World) : (Instr.typeAssert (.iface 92 v) 43 100 true).run Tryz.prog w = .ok (.tuple #[.agg #[.int .u8 0, .nilIface], .bool false]) w := by kernel_rfl
@[go_sem] theorem ta_beside_match (v : Value) (w : World) : (Instr.typeAssert (.iface 92 v) 43 146 true).run Tryz.prog w = .ok (.tuple #[.agg #[.int .u8 0, .int .u8 0, .nilIface], .bool false]) w := by kernel_rfl
@[go_sem] theorem ta_beside_repeat (v : Value) (w : World) : (Instr.typeAssert (.iface 92 v) 43 103 true).run Tryz.prog w = .ok (.tuple #[.agg #[.nilIface], .bool false]) w := by kernel_rfl
@[go_sem] theorem ta_own_nothing (v : Value) (w : World) : (Instr.typeAssert (.iface 100 v) 43 132 true).run Tryz.prog w = .ok (.tuple #[.agg #[], .bool false]) w := by kernel_rfl
@[go_sem] theorem ta_own_send (v : Value) (w : World) : (Instr.typeAssert (.iface 100 v) 43 144 true).run Tryz.prog w = .ok (.tuple #[.agg #[.int .u8 0, .int .u8 0, .nilIface], .bool false]) w := by kernel_rfl
@[go_sem] theorem ta_own_receive (v : Value) (w : World) : (Instr.typeAssert (.iface 100 v) 43 142 true).run Tryz.prog w = .ok (.tuple #[.agg #[.int .u8 0, .int .u8 0, .nilIface], .bool false]) w := by kernel_rfl
@[go_sem] theorem ta_own_silent (v : Value) (w : World) : (Instr.typeAssert (.iface 100 v) 43 147 true).run Tryz.prog w = .ok (.tuple #[.agg #[.nilIface], .bool false]) w := by kernel_rfl
@[go_sem] theorem ta_own_choice (v : Value) (w : World) : (Instr.typeAssert (.iface 100 v) 43 93 true).run Tryz.prog w = .ok (.tuple #[.agg #[.nilIface, .nilIface], .bool false]) w := by kernel_rfl
@[go_sem] theorem ta_own_beside (v : Value) (w : World) : (Instr.typeAssert (.iface 100 v) 43 92 true).run Tryz.prog w = .ok (.tuple #[.agg #[.nilIface, .nilIface], .bool false]) w := by kernel_rfl
@[go_sem] theorem ta_own_own (v : Value) (w : World) : (Instr.typeAssert (.iface 100 v) 43 100 true).run Tryz.prog w = .ok (.tuple #[v, .bool true]) w := by kernel_rfl
@[go_sem] theorem ta_own_match (v : Value) (w : World) : (Instr.typeAssert (.iface 100 v) 43 146 true).run Tryz.prog w = .ok (.tuple #[.agg #[.int .u8 0, .int .u8 0, .nilIface], .bool false]) w := by kernel_rfl
@[go_sem] theorem ta_own_repeat (v : Value) (w : World) : (Instr.typeAssert (.iface 100 v) 43 103 true).run Tryz.prog w = .ok (.tuple #[.agg #[.nilIface], .bool false]) w := by kernel_rfl
@[go_sem] theorem ta_match_nothing (v : Value) (w : World) : (Instr.typeAssert (.iface 146 v) 43 132 true).run Tryz.prog w = .ok (.tuple #[.agg #[], .bool false]) w := by kernel_rfl
@[go_sem] theorem ta_match_send (v : Value) (w : World) : (Instr.typeAssert (.iface 146 v) 43 144 true).run Tryz.prog w = .ok (.tuple #[.agg #[.int .u8 0, .int .u8 0, .nilIface], .bool false]) w := by kernel_rfl
@[go_sem] theorem ta_match_receive (v : Value) (w : World) : (Instr.typeAssert (.iface 146 v) 43 142 true).run Tryz.prog w = .ok (.tuple #[.agg #[.int .u8 0, .int .u8 0, .nilIface], .bool false]) w := by kernel_rfl
@[go_sem] theorem ta_match_silent (v : Value) (w : World) : (Instr.typeAssert (.iface 146 v) 43 147 true).run Tryz.prog w = .ok (.tuple #[.agg #[.nilIface], .bool false]) w := by kernel_rfl
@[go_sem] theorem ta_match_choice (v : Value) (w : World) : (Instr.typeAssert (.iface 146 v) 43 93 true).run Tryz.prog w = .ok (.tuple #[.agg #[.nilIface, .nilIface], .bool false]) w := by kernel_rfl
@[go_sem] theorem ta_match_beside (v : Value) (w : World) : (Instr.typeAssert (.iface 146 v) 43 92 true).run Tryz.prog w = .ok (.tuple #[.agg #[.nilIface, .nilIface], .bool false]) w := by kernel_rfl
@[go_sem] theorem ta_match_own (v : Value) (w : World) : (Instr.typeAssert (.iface 146 v) 43 100 true).run Tryz.prog w = .ok (.tuple #[.agg #[.int .u8 0, .nilIface], .bool false]) w := by kernel_rfl
@[go_sem] theorem ta_match_match (v : Value) (w : World) : (Instr.typeAssert (.iface 146 v) 43 146 true).run Tryz.prog w = .ok (.tuple #[v, .bool true]) w := by kernel_rfl
@[go_sem] theorem ta_match_repeat (v : Value) (w : World) : (Instr.typeAssert (.iface 146 v) 43 103 true).run Tryz.prog w = .ok (.tuple #[.agg #[.nilIface], .bool false]) w := by kernel_rfl
@[go_sem] theorem ta_repeat_nothing (v : Value) (w : World) : (Instr.typeAssert (.iface 103 v) 43 132 true).run Tryz.prog w = .ok (.tuple #[.agg #[], .bool false]) w := by kernel_rfl
@[go_sem] theorem ta_repeat_send (v : Value) (w : World) : (Instr.typeAssert (.iface 103 v) 43 144 true).run Tryz.prog w = .ok (.tuple #[.agg #[.int .u8 0, .int .u8 0, .nilIface], .bool false]) w := by kernel_rfl
@[go_sem] theorem ta_repeat_receive (v : Value) (w : World) : (Instr.typeAssert (.iface 103 v) 43 142 true).run Tryz.prog w = .ok (.tuple #[.agg #[.int .u8 0, .int .u8 0, .nilIface], .bool false]) w := by kernel_rfl
@[go_sem] theorem ta_repeat_silent (v : Value) (w : World) : (Instr.typeAssert (.iface 103 v) 43 147 true).run Tryz.prog w = .ok (.tuple #[.agg #[.nilIface], .bool false]) w := by kernel_rfl
@[go_sem] theorem ta_repeat_choice (v : Value) (w : World) : (Instr.typeAssert (.iface 103 v) 43 93 true).run Tryz.prog w = .ok (.tuple #[.agg #[.nilIface, .nilIface], .bool false]) w := by kernel_rfl
@[go_sem] theorem ta_repeat_beside (v : Value) (w : World) : (Instr.typeAssert (.iface 103 v) 43 92 true).run Tryz.prog w = .ok (.tuple #[.agg #[.nilIface, .nilIface], .bool false]) w := by kernel_rfl
@[go_sem] theorem ta_repeat_own (v : Value) (w : World) : (Instr.typeAssert (.iface 103 v) 43 100 true).run Tryz.prog w = .ok (.tuple #[.agg #[.int .u8 0, .nilIface], .bool false]) w := by kernel_rfl
@[go_sem] theorem ta_repeat_match (v : Value) (w : World) : (Instr.typeAssert (.iface 103 v) 43 146 true).run Tryz.prog w = .ok (.tuple #[.agg #[.int .u8 0, .int .u8 0, .nilIface], .bool false]) w := by kernel_rfl
@[go_sem] theorem ta_repeat_repeat (v : Value) (w : World) : (Instr.typeAssert (.iface 103 v) 43 103 true).run Tryz.prog w = .ok (.tuple #[v, .bool true]) w := by kernel_rfl

end Go.Proofs.YtmfmagfgcdaeeaaGreat.T1
