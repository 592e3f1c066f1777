/-
  Calls that are known, each by one run.
-/
import Derived.Test.YtmckghoaggopnaaGreatMRyK1
set_option linter.all false
namespace Go.Proofs.YtmckghoaggopnaaGreat.Y
open Go Go.Ry Go.RowKit
def r_21 : Row := ⟨5, [.one (.v (.int .i64 16)), .one (.v (.int .i64 0))], .tup [.agg [.v (.int .u64 0), .v (.int .u64 0), .v (.int .u64 0), .v (.int .u64 0), .v (.int .u64 0), .v (.int .u64 0), .v (.int .u64 0), .v (.int .u64 0), .v (.int .u64 0), .v (.int .u64 0), .v (.int .u64 0), .v (.int .u64 0), .v (.int .u64 0), .v (.int .u64 0), .v (.int .u64 0), .v (.int .u64 0)], .one (.v (.int .i64 2))]⟩
theorem k_21 : Known Tryz.prog r_21.f r_21.l r_21.v := row_nowT tabk_1 (by kernel_rfl)
def r_22 : Row := ⟨5, [.one (.v (.int .i64 1)), .one (.v (.int .i64 0))], .tup [.agg [.v (.int .u64 0), .v (.int .u64 0), .v (.int .u64 0), .v (.int .u64 0), .v (.int .u64 0), .v (.int .u64 0), .v (.int .u64 0), .v (.int .u64 0), .v (.int .u64 0), .v (.int .u64 0), .v (.int .u64 0), .v (.int .u64 0), .v (.int .u64 0), .v (.int .u64 0), .v (.int .u64 0), .v (.int .u64 0)], .one (.v (.int .i64 2))]⟩
theorem k_22 : Known Tryz.prog r_22.f r_22.l r_22.v := row_nowT tabk_1 (by kernel_rfl)
def r_23 : Row := ⟨5, [.one (.v (.int .i64 11)), .one (.v (.int .i64 (-1)))], .tup [.agg [.v (.int .u64 0), .v (.int .u64 0), .v (.int .u64 0), .v (.int .u64 0), .v (.int .u64 0), .v (.int .u64 0), .v (.int .u64 0), .v (.int .u64 0), .v (.int .u64 0), .v (.int .u64 0), .v (.int .u64 0), .v (.int .u64 0), .v (.int .u64 0), .v (.int .u64 0), .v (.int .u64 0), .v (.int .u64 0)], .one (.v (.int .i64 2))]⟩
theorem k_23 : Known Tryz.prog r_23.f r_23.l r_23.v := row_nowT tabk_1 (by kernel_rfl)
def r_24 : Row := ⟨5, [.one (.v (.int .i64 15)), .one (.v (.int .i64 1001))], .tup [.agg [.v (.int .u64 0), .v (.int .u64 0), .v (.int .u64 0), .v (.int .u64 0), .v (.int .u64 0), .v (.int .u64 0), .v (.int .u64 0), .v (.int .u64 0), .v (.int .u64 0), .v (.int .u64 0), .v (.int .u64 0), .v (.int .u64 0), .v (.int .u64 0), .v (.int .u64 0), .v (.int .u64 0), .v (.int .u64 0)], .one (.v (.int .i64 2))]⟩
theorem k_24 : Known Tryz.prog r_24.f r_24.l r_24.v := row_nowT tabk_1 (by kernel_rfl)
end Go.Proofs.YtmckghoaggopnaaGreat.Y
