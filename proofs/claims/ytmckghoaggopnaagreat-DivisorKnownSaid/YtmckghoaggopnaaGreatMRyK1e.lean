/-
  Calls that are known, each by one run.
-/
import Derived.Test.YtmckghoaggopnaaGreatMRyK1
set_option linter.all false
namespace Go.Proofs.YtmckghoaggopnaaGreat.Y
open Go Go.Ry Go.RowKit
def r_17 : Row := ⟨8, [.one (.v (.int .i64 1000000000000000000)), .one (.v (.int .i64 1001000))], .s (.agg [.v (.int .u64 1000000000000000), .v (.int .u64 0), .v (.int .u64 0), .v (.int .u64 0), .v (.int .u64 0), .v (.int .u64 0), .v (.int .u64 0), .v (.int .u64 0), .v (.int .u64 1001), .v (.int .u64 0), .v (.int .u64 0), .v (.int .u64 0), .v (.int .u64 0), .v (.int .u64 0), .v (.int .u64 0), .v (.int .u64 0)])⟩
theorem k_17 : Known Tryz.prog r_17.f r_17.l r_17.v := row_nowT tabk_1 (by kernel_rfl)
def r_18 : Row := ⟨5, [.one (.v (.int .i64 12)), .one (.v (.int .i64 1))], .tup [.agg [.v (.int .u64 4), .v (.int .u64 0), .v (.int .u64 0), .v (.int .u64 0), .v (.int .u64 0), .v (.int .u64 0), .v (.int .u64 0), .v (.int .u64 0), .v (.int .u64 3), .v (.int .u64 0), .v (.int .u64 0), .v (.int .u64 0), .v (.int .u64 0), .v (.int .u64 0), .v (.int .u64 0), .v (.int .u64 0)], .one (.v (.int .i64 0))]⟩
theorem k_18 : Known Tryz.prog r_18.f r_18.l r_18.v := row_nowT tabk_1 (by kernel_rfl)
def r_19 : Row := ⟨5, [.one (.v (.int .i64 13)), .one (.v (.int .i64 1))], .tup [.agg [.v (.int .u64 2), .v (.int .u64 0), .v (.int .u64 0), .v (.int .u64 0), .v (.int .u64 0), .v (.int .u64 0), .v (.int .u64 0), .v (.int .u64 0), .v (.int .u64 1), .v (.int .u64 0), .v (.int .u64 0), .v (.int .u64 0), .v (.int .u64 0), .v (.int .u64 0), .v (.int .u64 0), .v (.int .u64 0)], .one (.v (.int .i64 0))]⟩
theorem k_19 : Known Tryz.prog r_19.f r_19.l r_19.v := row_nowT tabk_1 (by kernel_rfl)
def r_20 : Row := ⟨5, [.one (.v (.int .i64 10)), .one (.v (.int .i64 0))], .tup [.agg [.v (.int .u64 0), .v (.int .u64 0), .v (.int .u64 0), .v (.int .u64 0), .v (.int .u64 0), .v (.int .u64 0), .v (.int .u64 0), .v (.int .u64 0), .v (.int .u64 0), .v (.int .u64 0), .v (.int .u64 0), .v (.int .u64 0), .v (.int .u64 0), .v (.int .u64 0), .v (.int .u64 0), .v (.int .u64 0)], .one (.v (.int .i64 2))]⟩
theorem k_20 : Known Tryz.prog r_20.f r_20.l r_20.v := row_nowT tabk_1 (by kernel_rfl)
end Go.Proofs.YtmckghoaggopnaaGreat.Y
