/-
  Calls that are known, each by one run.
-/
import Derived.Test.YtmckghoaggopnaaGreatMRyK1
set_option linter.all false
namespace Go.Proofs.YtmckghoaggopnaaGreat.Y
open Go Go.Ry Go.RowKit
def r_9 : Row := ⟨19, [.one (.v (.int .i64 2)), .one (.v (.int .i64 1))], .tup [.agg [.v (.int .u64 2), .v (.int .u64 0), .v (.int .u64 0), .v (.int .u64 0), .v (.int .u64 0), .v (.int .u64 0), .v (.int .u64 0), .v (.int .u64 0), .v (.int .u64 1), .v (.int .u64 0), .v (.int .u64 0), .v (.int .u64 0), .v (.int .u64 0), .v (.int .u64 0), .v (.int .u64 0), .v (.int .u64 0)], .one (.v (.int .i64 0))]⟩
theorem k_9 : Known Tryz.prog r_9.f r_9.l r_9.v := row_nowT tabk_1 (by kernel_rfl)
def r_10 : Row := ⟨19, [.one (.v (.int .i64 81)), .one (.v (.int .i64 2))], .tup [.agg [.v (.int .u64 81), .v (.int .u64 0), .v (.int .u64 0), .v (.int .u64 0), .v (.int .u64 0), .v (.int .u64 0), .v (.int .u64 0), .v (.int .u64 0), .v (.int .u64 2), .v (.int .u64 0), .v (.int .u64 0), .v (.int .u64 0), .v (.int .u64 0), .v (.int .u64 0), .v (.int .u64 0), .v (.int .u64 0)], .one (.v (.int .i64 0))]⟩
theorem k_10 : Known Tryz.prog r_10.f r_10.l r_10.v := row_nowT tabk_1 (by kernel_rfl)
def r_11 : Row := ⟨19, [.one (.v (.int .i64 0)), .one (.v (.int .i64 1))], .tup [.agg [.v (.int .u64 0), .v (.int .u64 0), .v (.int .u64 0), .v (.int .u64 0), .v (.int .u64 0), .v (.int .u64 0), .v (.int .u64 0), .v (.int .u64 0), .v (.int .u64 1), .v (.int .u64 0), .v (.int .u64 0), .v (.int .u64 0), .v (.int .u64 0), .v (.int .u64 0), .v (.int .u64 0), .v (.int .u64 0)], .one (.v (.int .i64 0))]⟩
theorem k_11 : Known Tryz.prog r_11.f r_11.l r_11.v := row_nowT tabk_1 (by kernel_rfl)
def r_12 : Row := ⟨19, [.one (.v (.int .i64 1000000000000000000)), .one (.v (.int .i64 1001000))], .tup [.agg [.v (.int .u64 1000000000000000), .v (.int .u64 0), .v (.int .u64 0), .v (.int .u64 0), .v (.int .u64 0), .v (.int .u64 0), .v (.int .u64 0), .v (.int .u64 0), .v (.int .u64 1001), .v (.int .u64 0), .v (.int .u64 0), .v (.int .u64 0), .v (.int .u64 0), .v (.int .u64 0), .v (.int .u64 0), .v (.int .u64 0)], .one (.v (.int .i64 0))]⟩
theorem k_12 : Known Tryz.prog r_12.f r_12.l r_12.v := row_nowT tabk_1 (by kernel_rfl)
end Go.Proofs.YtmckghoaggopnaaGreat.Y
