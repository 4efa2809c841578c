/- Texts of the proof. No conditions. -/
import Derived.Test.YtalegefnppbkdaaGreatProg
import Derived.KernelRfl
import Derived.WalkKit
namespace Go.Proofs.YtalegefnppbkdaaGreat.T1
open Go.Proofs.Tryz
@[go_sem] theorem ajy (v:Value) (w:World):(Instr.typeAssert (.iface 90 v) 38 90 true).run prog w=.ok (.tuple #[v,.bool true]) w:=by kernel_rfl
@[go_sem] theorem aeU (v:Value) (w:World):(Instr.typeAssert (.iface 90 v) 38 108 true).run prog w=.ok (.tuple #[.agg #[.int .u8 0,.int .u8 0,.nilIface],.bool false]) w:=by kernel_rfl
@[go_sem] theorem adz (v:Value) (w:World):(Instr.typeAssert (.iface 90 v) 38 111 true).run prog w=.ok (.tuple #[.agg #[.int .u8 0,.int .u8 0,.nilIface],.bool false]) w:=by kernel_rfl
@[go_sem] theorem akL (v:Value) (w:World):(Instr.typeAssert (.iface 90 v) 38 146 true).run prog w=.ok (.tuple #[.agg #[.nilIface],.bool false]) w:=by kernel_rfl
@[go_sem] theorem ad5 (v:Value) (w:World):(Instr.typeAssert (.iface 90 v) 38 62 true).run prog w=.ok (.tuple #[.agg #[.nilIface,.nilIface],.bool false]) w:=by kernel_rfl
@[go_sem] theorem akM (v:Value) (w:World):(Instr.typeAssert (.iface 90 v) 38 55 true).run prog w=.ok (.tuple #[.agg #[.nilIface,.nilIface],.bool false]) w:=by kernel_rfl
@[go_sem] theorem app (v:Value) (w:World):(Instr.typeAssert (.iface 90 v) 38 61 true).run prog w=.ok (.tuple #[.agg #[.int .u8 0,.nilIface],.bool false]) w:=by kernel_rfl
@[go_sem] theorem al2 (v:Value) (w:World):(Instr.typeAssert (.iface 90 v) 38 150 true).run prog w=.ok (.tuple #[.agg #[.int .u8 0,.int .u8 0,.nilIface],.bool false]) w:=by kernel_rfl
@[go_sem] theorem aco (v:Value) (w:World):(Instr.typeAssert (.iface 90 v) 38 147 true).run prog w=.ok (.tuple #[.agg #[.nilIface],.bool false]) w:=by kernel_rfl
@[go_sem] theorem amr (v:Value) (w:World):(Instr.typeAssert (.iface 108 v) 38 90 true).run prog w=.ok (.tuple #[.agg #[],.bool false]) w:=by kernel_rfl
@[go_sem] theorem art (v:Value) (w:World):(Instr.typeAssert (.iface 108 v) 38 108 true).run prog w=.ok (.tuple #[v,.bool true]) w:=by kernel_rfl
@[go_sem] theorem aeV (v:Value) (w:World):(Instr.typeAssert (.iface 108 v) 38 111 true).run prog w=.ok (.tuple #[.agg #[.int .u8 0,.int .u8 0,.nilIface],.bool false]) w:=by kernel_rfl
@[go_sem] theorem apq (v:Value) (w:World):(Instr.typeAssert (.iface 108 v) 38 146 true).run prog w=.ok (.tuple #[.agg #[.nilIface],.bool false]) w:=by kernel_rfl
@[go_sem] theorem afN (v:Value) (w:World):(Instr.typeAssert (.iface 108 v) 38 62 true).run prog w=.ok (.tuple #[.agg #[.nilIface,.nilIface],.bool false]) w:=by kernel_rfl
@[go_sem] theorem apr (v:Value) (w:World):(Instr.typeAssert (.iface 108 v) 38 55 true).run prog w=.ok (.tuple #[.agg #[.nilIface,.nilIface],.bool false]) w:=by kernel_rfl
@[go_sem] theorem ase (v:Value) (w:World):(Instr.typeAssert (.iface 108 v) 38 61 true).run prog w=.ok (.tuple #[.agg #[.int .u8 0,.nilIface],.bool false]) w:=by kernel_rfl
@[go_sem] theorem agK (v:Value) (w:World):(Instr.typeAssert (.iface 108 v) 38 150 true).run prog w=.ok (.tuple #[.agg #[.int .u8 0,.int .u8 0,.nilIface],.bool false]) w:=by kernel_rfl
@[go_sem] theorem adj (v:Value) (w:World):(Instr.typeAssert (.iface 108 v) 38 147 true).run prog w=.ok (.tuple #[.agg #[.nilIface],.bool false]) w:=by kernel_rfl
@[go_sem] theorem ajz (v:Value) (w:World):(Instr.typeAssert (.iface 111 v) 38 90 true).run prog w=.ok (.tuple #[.agg #[],.bool false]) w:=by kernel_rfl
@[go_sem] theorem aeW (v:Value) (w:World):(Instr.typeAssert (.iface 111 v) 38 108 true).run prog w=.ok (.tuple #[.agg #[.int .u8 0,.int .u8 0,.nilIface],.bool false]) w:=by kernel_rfl
@[go_sem] theorem ajA (v:Value) (w:World):(Instr.typeAssert (.iface 111 v) 38 111 true).run prog w=.ok (.tuple #[v,.bool true]) w:=by kernel_rfl
@[go_sem] theorem akN (v:Value) (w:World):(Instr.typeAssert (.iface 111 v) 38 146 true).run prog w=.ok (.tuple #[.agg #[.nilIface],.bool false]) w:=by kernel_rfl
@[go_sem] theorem ad6 (v:Value) (w:World):(Instr.typeAssert (.iface 111 v) 38 62 true).run prog w=.ok (.tuple #[.agg #[.nilIface,.nilIface],.bool false]) w:=by kernel_rfl
@[go_sem] theorem akO (v:Value) (w:World):(Instr.typeAssert (.iface 111 v) 38 55 true).run prog w=.ok (.tuple #[.agg #[.nilIface,.nilIface],.bool false]) w:=by kernel_rfl
@[go_sem] theorem aps (v:Value) (w:World):(Instr.typeAssert (.iface 111 v) 38 61 true).run prog w=.ok (.tuple #[.agg #[.int .u8 0,.nilIface],.bool false]) w:=by kernel_rfl
@[go_sem] theorem aeB (v:Value) (w:World):(Instr.typeAssert (.iface 111 v) 38 150 true).run prog w=.ok (.tuple #[.agg #[.int .u8 0,.int .u8 0,.nilIface],.bool false]) w:=by kernel_rfl
@[go_sem] theorem acp (v:Value) (w:World):(Instr.typeAssert (.iface 111 v) 38 147 true).run prog w=.ok (.tuple #[.agg #[.nilIface],.bool false]) w:=by kernel_rfl
@[go_sem] theorem akP (v:Value) (w:World):(Instr.typeAssert (.iface 146 v) 38 90 true).run prog w=.ok (.tuple #[.agg #[],.bool false]) w:=by kernel_rfl
@[go_sem] theorem afO (v:Value) (w:World):(Instr.typeAssert (.iface 146 v) 38 108 true).run prog w=.ok (.tuple #[.agg #[.int .u8 0,.int .u8 0,.nilIface],.bool false]) w:=by kernel_rfl
@[go_sem] theorem ad7 (v:Value) (w:World):(Instr.typeAssert (.iface 146 v) 38 111 true).run prog w=.ok (.tuple #[.agg #[.int .u8 0,.int .u8 0,.nilIface],.bool false]) w:=by kernel_rfl
@[go_sem] theorem al3 (v:Value) (w:World):(Instr.typeAssert (.iface 146 v) 38 146 true).run prog w=.ok (.tuple #[v,.bool true]) w:=by kernel_rfl
@[go_sem] theorem aeC (v:Value) (w:World):(Instr.typeAssert (.iface 146 v) 38 62 true).run prog w=.ok (.tuple #[.agg #[.nilIface,.nilIface],.bool false]) w:=by kernel_rfl
@[go_sem] theorem al4 (v:Value) (w:World):(Instr.typeAssert (.iface 146 v) 38 55 true).run prog w=.ok (.tuple #[.agg #[.nilIface,.nilIface],.bool false]) w:=by kernel_rfl
@[go_sem] theorem apG (v:Value) (w:World):(Instr.typeAssert (.iface 146 v) 38 61 true).run prog w=.ok (.tuple #[.agg #[.int .u8 0,.nilIface],.bool false]) w:=by kernel_rfl
@[go_sem] theorem aeX (v:Value) (w:World):(Instr.typeAssert (.iface 146 v) 38 150 true).run prog w=.ok (.tuple #[.agg #[.int .u8 0,.int .u8 0,.nilIface],.bool false]) w:=by kernel_rfl
@[go_sem] theorem acK (v:Value) (w:World):(Instr.typeAssert (.iface 146 v) 38 147 true).run prog w=.ok (.tuple #[.agg #[.nilIface],.bool false]) w:=by kernel_rfl
@[go_sem] theorem akQ (v:Value) (w:World):(Instr.typeAssert (.iface 62 v) 38 90 true).run prog w=.ok (.tuple #[.agg #[],.bool false]) w:=by kernel_rfl
@[go_sem] theorem afP (v:Value) (w:World):(Instr.typeAssert (.iface 62 v) 38 108 true).run prog w=.ok (.tuple #[.agg #[.int .u8 0,.int .u8 0,.nilIface],.bool false]) w:=by kernel_rfl
@[go_sem] theorem ad8 (v:Value) (w:World):(Instr.typeAssert (.iface 62 v) 38 111 true).run prog w=.ok (.tuple #[.agg #[.int .u8 0,.int .u8 0,.nilIface],.bool false]) w:=by kernel_rfl
@[go_sem] theorem al5 (v:Value) (w:World):(Instr.typeAssert (.iface 62 v) 38 146 true).run prog w=.ok (.tuple #[.agg #[.nilIface],.bool false]) w:=by kernel_rfl
@[go_sem] theorem al6 (v:Value) (w:World):(Instr.typeAssert (.iface 62 v) 38 62 true).run prog w=.ok (.tuple #[v,.bool true]) w:=by kernel_rfl
@[go_sem] theorem al7 (v:Value) (w:World):(Instr.typeAssert (.iface 62 v) 38 55 true).run prog w=.ok (.tuple #[.agg #[.nilIface,.nilIface],.bool false]) w:=by kernel_rfl
@[go_sem] theorem apH (v:Value) (w:World):(Instr.typeAssert (.iface 62 v) 38 61 true).run prog w=.ok (.tuple #[.agg #[.int .u8 0,.nilIface],.bool false]) w:=by kernel_rfl
@[go_sem] theorem ams (v:Value) (w:World):(Instr.typeAssert (.iface 62 v) 38 150 true).run prog w=.ok (.tuple #[.agg #[.int .u8 0,.int .u8 0,.nilIface],.bool false]) w:=by kernel_rfl
@[go_sem] theorem acL (v:Value) (w:World):(Instr.typeAssert (.iface 62 v) 38 147 true).run prog w=.ok (.tuple #[.agg #[.nilIface],.bool false]) w:=by kernel_rfl
@[go_sem] theorem akR (v:Value) (w:World):(Instr.typeAssert (.iface 55 v) 38 90 true).run prog w=.ok (.tuple #[.agg #[],.bool false]) w:=by kernel_rfl
@[go_sem] theorem afQ (v:Value) (w:World):(Instr.typeAssert (.iface 55 v) 38 108 true).run prog w=.ok (.tuple #[.agg #[.int .u8 0,.int .u8 0,.nilIface],.bool false]) w:=by kernel_rfl
@[go_sem] theorem ad9 (v:Value) (w:World):(Instr.typeAssert (.iface 55 v) 38 111 true).run prog w=.ok (.tuple #[.agg #[.int .u8 0,.int .u8 0,.nilIface],.bool false]) w:=by kernel_rfl
@[go_sem] theorem al8 (v:Value) (w:World):(Instr.typeAssert (.iface 55 v) 38 146 true).run prog w=.ok (.tuple #[.agg #[.nilIface],.bool false]) w:=by kernel_rfl
@[go_sem] theorem aeD (v:Value) (w:World):(Instr.typeAssert (.iface 55 v) 38 62 true).run prog w=.ok (.tuple #[.agg #[.nilIface,.nilIface],.bool false]) w:=by kernel_rfl
@[go_sem] theorem al9 (v:Value) (w:World):(Instr.typeAssert (.iface 55 v) 38 55 true).run prog w=.ok (.tuple #[v,.bool true]) w:=by kernel_rfl
@[go_sem] theorem apI (v:Value) (w:World):(Instr.typeAssert (.iface 55 v) 38 61 true).run prog w=.ok (.tuple #[.agg #[.int .u8 0,.nilIface],.bool false]) w:=by kernel_rfl
@[go_sem] theorem amt (v:Value) (w:World):(Instr.typeAssert (.iface 55 v) 38 150 true).run prog w=.ok (.tuple #[.agg #[.int .u8 0,.int .u8 0,.nilIface],.bool false]) w:=by kernel_rfl
@[go_sem] theorem acM (v:Value) (w:World):(Instr.typeAssert (.iface 55 v) 38 147 true).run prog w=.ok (.tuple #[.agg #[.nilIface],.bool false]) w:=by kernel_rfl
@[go_sem] theorem apu (v:Value) (w:World):(Instr.typeAssert (.iface 61 v) 38 90 true).run prog w=.ok (.tuple #[.agg #[],.bool false]) w:=by kernel_rfl
@[go_sem] theorem aiX (v:Value) (w:World):(Instr.typeAssert (.iface 61 v) 38 108 true).run prog w=.ok (.tuple #[.agg #[.int .u8 0,.int .u8 0,.nilIface],.bool false]) w:=by kernel_rfl
@[go_sem] theorem afR (v:Value) (w:World):(Instr.typeAssert (.iface 61 v) 38 111 true).run prog w=.ok (.tuple #[.agg #[.int .u8 0,.int .u8 0,.nilIface],.bool false]) w:=by kernel_rfl
@[go_sem] theorem apJ (v:Value) (w:World):(Instr.typeAssert (.iface 61 v) 38 146 true).run prog w=.ok (.tuple #[.agg #[.nilIface],.bool false]) w:=by kernel_rfl
@[go_sem] theorem agL (v:Value) (w:World):(Instr.typeAssert (.iface 61 v) 38 62 true).run prog w=.ok (.tuple #[.agg #[.nilIface,.nilIface],.bool false]) w:=by kernel_rfl
@[go_sem] theorem apK (v:Value) (w:World):(Instr.typeAssert (.iface 61 v) 38 55 true).run prog w=.ok (.tuple #[.agg #[.nilIface,.nilIface],.bool false]) w:=by kernel_rfl
@[go_sem] theorem at9 (v:Value) (w:World):(Instr.typeAssert (.iface 61 v) 38 61 true).run prog w=.ok (.tuple #[v,.bool true]) w:=by kernel_rfl
@[go_sem] theorem aru (v:Value) (w:World):(Instr.typeAssert (.iface 61 v) 38 150 true).run prog w=.ok (.tuple #[.agg #[.int .u8 0,.int .u8 0,.nilIface],.bool false]) w:=by kernel_rfl
@[go_sem] theorem adA (v:Value) (w:World):(Instr.typeAssert (.iface 61 v) 38 147 true).run prog w=.ok (.tuple #[.agg #[.nilIface],.bool false]) w:=by kernel_rfl
@[go_sem] theorem al_ (v:Value) (w:World):(Instr.typeAssert (.iface 150 v) 38 90 true).run prog w=.ok (.tuple #[.agg #[],.bool false]) w:=by kernel_rfl
@[go_sem] theorem agM (v:Value) (w:World):(Instr.typeAssert (.iface 150 v) 38 108 true).run prog w=.ok (.tuple #[.agg #[.int .u8 0,.int .u8 0,.nilIface],.bool false]) w:=by kernel_rfl
@[go_sem] theorem aeE (v:Value) (w:World):(Instr.typeAssert (.iface 150 v) 38 111 true).run prog w=.ok (.tuple #[.agg #[.int .u8 0,.int .u8 0,.nilIface],.bool false]) w:=by kernel_rfl
@[go_sem] theorem amu (v:Value) (w:World):(Instr.typeAssert (.iface 150 v) 38 146 true).run prog w=.ok (.tuple #[.agg #[.nilIface],.bool false]) w:=by kernel_rfl
@[go_sem] theorem aeY (v:Value) (w:World):(Instr.typeAssert (.iface 150 v) 38 62 true).run prog w=.ok (.tuple #[.agg #[.nilIface,.nilIface],.bool false]) w:=by kernel_rfl
@[go_sem] theorem amv (v:Value) (w:World):(Instr.typeAssert (.iface 150 v) 38 55 true).run prog w=.ok (.tuple #[.agg #[.nilIface,.nilIface],.bool false]) w:=by kernel_rfl
@[go_sem] theorem arv (v:Value) (w:World):(Instr.typeAssert (.iface 150 v) 38 61 true).run prog w=.ok (.tuple #[.agg #[.int .u8 0,.nilIface],.bool false]) w:=by kernel_rfl
@[go_sem] theorem apv (v:Value) (w:World):(Instr.typeAssert (.iface 150 v) 38 150 true).run prog w=.ok (.tuple #[v,.bool true]) w:=by kernel_rfl
@[go_sem] theorem acR (v:Value) (w:World):(Instr.typeAssert (.iface 150 v) 38 147 true).run prog w=.ok (.tuple #[.agg #[.nilIface],.bool false]) w:=by kernel_rfl
@[go_sem] theorem akS (v:Value) (w:World):(Instr.typeAssert (.iface 147 v) 38 90 true).run prog w=.ok (.tuple #[.agg #[],.bool false]) w:=by kernel_rfl
@[go_sem] theorem afS (v:Value) (w:World):(Instr.typeAssert (.iface 147 v) 38 108 true).run prog w=.ok (.tuple #[.agg #[.int .u8 0,.int .u8 0,.nilIface],.bool false]) w:=by kernel_rfl
@[go_sem] theorem ad_ (v:Value) (w:World):(Instr.typeAssert (.iface 147 v) 38 111 true).run prog w=.ok (.tuple #[.agg #[.int .u8 0,.int .u8 0,.nilIface],.bool false]) w:=by kernel_rfl
@[go_sem] theorem ama (v:Value) (w:World):(Instr.typeAssert (.iface 147 v) 38 146 true).run prog w=.ok (.tuple #[.agg #[.nilIface],.bool false]) w:=by kernel_rfl
@[go_sem] theorem aeF (v:Value) (w:World):(Instr.typeAssert (.iface 147 v) 38 62 true).run prog w=.ok (.tuple #[.agg #[.nilIface,.nilIface],.bool false]) w:=by kernel_rfl
@[go_sem] theorem amb (v:Value) (w:World):(Instr.typeAssert (.iface 147 v) 38 55 true).run prog w=.ok (.tuple #[.agg #[.nilIface,.nilIface],.bool false]) w:=by kernel_rfl
@[go_sem] theorem apL (v:Value) (w:World):(Instr.typeAssert (.iface 147 v) 38 61 true).run prog w=.ok (.tuple #[.agg #[.int .u8 0,.nilIface],.bool false]) w:=by kernel_rfl
@[go_sem] theorem aeZ (v:Value) (w:World):(Instr.typeAssert (.iface 147 v) 38 150 true).run prog w=.ok (.tuple #[.agg #[.int .u8 0,.int .u8 0,.nilIface],.bool false]) w:=by kernel_rfl
@[go_sem] theorem amc (v:Value) (w:World):(Instr.typeAssert (.iface 147 v) 38 147 true).run prog w=.ok (.tuple #[v,.bool true]) w:=by kernel_rfl
end Go.Proofs.YtalegefnppbkdaaGreat.T1
