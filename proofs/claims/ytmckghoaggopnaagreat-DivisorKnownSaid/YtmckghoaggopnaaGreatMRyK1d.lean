/-
  Calls that are known, each by one run.
-/
import Derived.Test.YtmckghoaggopnaaGreatMRyK1
set_option linter.all false
namespace Go.Proofs.YtmckghoaggopnaaGreat.Y
open Go Go.Ry Go.RowKit
def r_13 : Row := ⟨8, [.one (.v (.int .i64 4)), .one (.v (.int .i64 3))], .s (.agg [.v (.int .u64 4), .v (.int .u64 0), .v (.int .u64 0), .v (.int .u64 0), .v (.int .u64 0), .v (.int .u64 0), .v (.int .u64 0), .v (.int .u64 0), .v (.int .u64 3), .v (.int .u64 0), .v (.int .u64 0), .v (.int .u64 0), .v (.int .u64 0), .v (.int .u64 0), .v (.int .u64 0), .v (.int .u64 0)])⟩
theorem k_13 : Known Tryz.prog r_13.f r_13.l r_13.v := row_nowT tabk_1 (by kernel_rfl)
def r_14 : Row := ⟨8, [.one (.v (.int .i64 2)), .one (.v (.int .i64 1))], .s (.agg [.v (.int .u64 2), .v (.int .u64 0), .v (.int .u64 0), .v (.int .u64 0), .v (.int .u64 0), .v (.int .u64 0), .v (.int .u64 0), .v (.int .u64 0), .v (.int .u64 1), .v (.int .u64 0), .v (.int .u64 0), .v (.int .u64 0), .v (.int .u64 0), .v (.int .u64 0), .v (.int .u64 0), .v (.int .u64 0)])⟩
theorem k_14 : Known Tryz.prog r_14.f r_14.l r_14.v := row_nowT tabk_1 (by kernel_rfl)
def r_15 : Row := ⟨8, [.one (.v (.int .i64 81)), .one (.v (.int .i64 2))], .s (.agg [.v (.int .u64 81), .v (.int .u64 0), .v (.int .u64 0), .v (.int .u64 0), .v (.int .u64 0), .v (.int .u64 0), .v (.int .u64 0), .v (.int .u64 0), .v (.int .u64 2), .v (.int .u64 0), .v (.int .u64 0), .v (.int .u64 0), .v (.int .u64 0), .v (.int .u64 0), .v (.int .u64 0), .v (.int .u64 0)])⟩
theorem k_15 : Known Tryz.prog r_15.f r_15.l r_15.v := row_nowT tabk_1 (by kernel_rfl)
def r_16 : Row := ⟨8, [.one (.v (.int .i64 0)), .one (.v (.int .i64 1))], .s (.agg [.v (.int .u64 0), .v (.int .u64 0), .v (.int .u64 0), .v (.int .u64 0), .v (.int .u64 0), .v (.int .u64 0), .v (.int .u64 0), .v (.int .u64 0), .v (.int .u64 1), .v (.int .u64 0), .v (.int .u64 0), .v (.int .u64 0), .v (.int .u64 0), .v (.int .u64 0), .v (.int .u64 0), .v (.int .u64 0)])⟩
theorem k_16 : Known Tryz.prog r_16.f r_16.l r_16.v := row_nowT tabk_1 (by kernel_rfl)
end Go.Proofs.YtmckghoaggopnaaGreat.Y
