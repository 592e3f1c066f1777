/-
  Calls that are known, each by one run.
-/
import Derived.Test.YtmckghoaggopnaaGreatMRyK1
set_option linter.all false
namespace Go.Proofs.YtmckghoaggopnaaGreat.Y
open Go Go.Ry Go.RowKit
def r_1 : Row := ⟨16, [.one (.v (.int .i64 0)), .one (.v (.int .i64 0))], .tup [.agg [.v (.int .u64 0), .v (.int .u64 0), .v (.int .u64 0), .v (.int .u64 0), .v (.int .u64 0), .v (.int .u64 0), .v (.int .u64 0), .v (.int .u64 0), .v (.int .u64 0), .v (.int .u64 0), .v (.int .u64 0), .v (.int .u64 0), .v (.int .u64 0), .v (.int .u64 0), .v (.int .u64 0), .v (.int .u64 0)], .one (.v (.int .i64 7))]⟩
theorem k_1 : Known Tryz.prog r_1.f r_1.l r_1.v := row_nowT tabk_1 (by kernel_rfl)
def r_2 : Row := ⟨16, [.one (.v (.int .i64 4)), .one (.v (.int .i64 3))], .tup [.agg [.v (.int .u64 4), .v (.int .u64 0), .v (.int .u64 0), .v (.int .u64 0), .v (.int .u64 0), .v (.int .u64 0), .v (.int .u64 0), .v (.int .u64 0), .v (.int .u64 3), .v (.int .u64 0), .v (.int .u64 0), .v (.int .u64 0), .v (.int .u64 0), .v (.int .u64 0), .v (.int .u64 0), .v (.int .u64 0)], .one (.v (.int .i64 0))]⟩
theorem k_2 : Known Tryz.prog r_2.f r_2.l r_2.v := row_nowT tabk_1 (by kernel_rfl)
def r_3 : Row := ⟨16, [.one (.v (.int .i64 2)), .one (.v (.int .i64 1))], .tup [.agg [.v (.int .u64 2), .v (.int .u64 0), .v (.int .u64 0), .v (.int .u64 0), .v (.int .u64 0), .v (.int .u64 0), .v (.int .u64 0), .v (.int .u64 0), .v (.int .u64 1), .v (.int .u64 0), .v (.int .u64 0), .v (.int .u64 0), .v (.int .u64 0), .v (.int .u64 0), .v (.int .u64 0), .v (.int .u64 0)], .one (.v (.int .i64 0))]⟩
theorem k_3 : Known Tryz.prog r_3.f r_3.l r_3.v := row_nowT tabk_1 (by kernel_rfl)
def r_4 : Row := ⟨16, [.one (.v (.int .i64 81)), .one (.v (.int .i64 2))], .tup [.agg [.v (.int .u64 81), .v (.int .u64 0), .v (.int .u64 0), .v (.int .u64 0), .v (.int .u64 0), .v (.int .u64 0), .v (.int .u64 0), .v (.int .u64 0), .v (.int .u64 2), .v (.int .u64 0), .v (.int .u64 0), .v (.int .u64 0), .v (.int .u64 0), .v (.int .u64 0), .v (.int .u64 0), .v (.int .u64 0)], .one (.v (.int .i64 0))]⟩
theorem k_4 : Known Tryz.prog r_4.f r_4.l r_4.v := row_nowT tabk_1 (by kernel_rfl)
end Go.Proofs.YtmckghoaggopnaaGreat.Y
