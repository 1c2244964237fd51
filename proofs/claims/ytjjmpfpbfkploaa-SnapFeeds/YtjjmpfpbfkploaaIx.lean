/-
  An array's element by its index.
-/
import Derived.Test.YtjjmpfpbfkploaaNums
namespace Go.Proofs.Ytjjmpfpbfkploaa
open Go.RowKit

theorem ix0 (s : Sn) (w : World) : Sem.run Try.prog (Instr.index 71 (.agg #[.int .i64 0, .int .i64 s.bid, .int .i64 s.ask, .int .i64 s.last, .int .i64 s.vol, .int .i64 s.now, .int .i64 s.opn]) (.int .i64 0)) w = .ok (.int .i64 0) w := by kernel_rfl
theorem ix1 (s : Sn) (w : World) : Sem.run Try.prog (Instr.index 71 (.agg #[.int .i64 0, .int .i64 s.bid, .int .i64 s.ask, .int .i64 s.last, .int .i64 s.vol, .int .i64 s.now, .int .i64 s.opn]) (.int .i64 1)) w = .ok (.int .i64 s.bid) w := by kernel_rfl
theorem ix2 (s : Sn) (w : World) : Sem.run Try.prog (Instr.index 71 (.agg #[.int .i64 0, .int .i64 s.bid, .int .i64 s.ask, .int .i64 s.last, .int .i64 s.vol, .int .i64 s.now, .int .i64 s.opn]) (.int .i64 2)) w = .ok (.int .i64 s.ask) w := by kernel_rfl
theorem ix3 (s : Sn) (w : World) : Sem.run Try.prog (Instr.index 71 (.agg #[.int .i64 0, .int .i64 s.bid, .int .i64 s.ask, .int .i64 s.last, .int .i64 s.vol, .int .i64 s.now, .int .i64 s.opn]) (.int .i64 3)) w = .ok (.int .i64 s.last) w := by kernel_rfl
theorem ix4 (s : Sn) (w : World) : Sem.run Try.prog (Instr.index 71 (.agg #[.int .i64 0, .int .i64 s.bid, .int .i64 s.ask, .int .i64 s.last, .int .i64 s.vol, .int .i64 s.now, .int .i64 s.opn]) (.int .i64 4)) w = .ok (.int .i64 s.vol) w := by kernel_rfl
theorem ix5 (s : Sn) (w : World) : Sem.run Try.prog (Instr.index 71 (.agg #[.int .i64 0, .int .i64 s.bid, .int .i64 s.ask, .int .i64 s.last, .int .i64 s.vol, .int .i64 s.now, .int .i64 s.opn]) (.int .i64 5)) w = .ok (.int .i64 s.now) w := by kernel_rfl
theorem ix6 (s : Sn) (w : World) : Sem.run Try.prog (Instr.index 71 (.agg #[.int .i64 0, .int .i64 s.bid, .int .i64 s.ask, .int .i64 s.last, .int .i64 s.vol, .int .i64 s.now, .int .i64 s.opn]) (.int .i64 6)) w = .ok (.int .i64 s.opn) w := by kernel_rfl
theorem ux0 (s : Sn) (w : World) : Sem.run Try.prog (Instr.index 71 (.agg #[.int .i64 0, .int .i64 s.bid, .int .i64 s.ask, .int .i64 s.last, .int .i64 s.vol, .int .i64 s.now, .int .i64 s.opn]) (.int .u8 0)) w = .ok (.int .i64 0) w := by kernel_rfl
theorem ux1 (s : Sn) (w : World) : Sem.run Try.prog (Instr.index 71 (.agg #[.int .i64 0, .int .i64 s.bid, .int .i64 s.ask, .int .i64 s.last, .int .i64 s.vol, .int .i64 s.now, .int .i64 s.opn]) (.int .u8 1)) w = .ok (.int .i64 s.bid) w := by kernel_rfl
theorem ux2 (s : Sn) (w : World) : Sem.run Try.prog (Instr.index 71 (.agg #[.int .i64 0, .int .i64 s.bid, .int .i64 s.ask, .int .i64 s.last, .int .i64 s.vol, .int .i64 s.now, .int .i64 s.opn]) (.int .u8 2)) w = .ok (.int .i64 s.ask) w := by kernel_rfl
theorem ux3 (s : Sn) (w : World) : Sem.run Try.prog (Instr.index 71 (.agg #[.int .i64 0, .int .i64 s.bid, .int .i64 s.ask, .int .i64 s.last, .int .i64 s.vol, .int .i64 s.now, .int .i64 s.opn]) (.int .u8 3)) w = .ok (.int .i64 s.last) w := by kernel_rfl
theorem ux4 (s : Sn) (w : World) : Sem.run Try.prog (Instr.index 71 (.agg #[.int .i64 0, .int .i64 s.bid, .int .i64 s.ask, .int .i64 s.last, .int .i64 s.vol, .int .i64 s.now, .int .i64 s.opn]) (.int .u8 4)) w = .ok (.int .i64 s.vol) w := by kernel_rfl
theorem ux5 (s : Sn) (w : World) : Sem.run Try.prog (Instr.index 71 (.agg #[.int .i64 0, .int .i64 s.bid, .int .i64 s.ask, .int .i64 s.last, .int .i64 s.vol, .int .i64 s.now, .int .i64 s.opn]) (.int .u8 5)) w = .ok (.int .i64 s.now) w := by kernel_rfl
theorem ux6 (s : Sn) (w : World) : Sem.run Try.prog (Instr.index 71 (.agg #[.int .i64 0, .int .i64 s.bid, .int .i64 s.ask, .int .i64 s.last, .int .i64 s.vol, .int .i64 s.now, .int .i64 s.opn]) (.int .u8 6)) w = .ok (.int .i64 s.opn) w := by kernel_rfl
end Go.Proofs.Ytjjmpfpbfkploaa
