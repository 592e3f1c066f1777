/-
  Calls that are known, each by one run.
-/
import Derived.Test.YtmckghoaggopnacGreatMRyK2
set_option linter.all false
namespace Go.Proofs.YtmckghoaggopnacGreat.Y
open Go Go.Ry Go.RowKit
def r_91 : Row := ⟨26, [.agg [.v (.int .i64 0), .v (.int .i64 4), .v (.int .i64 2)], .agg [.v (.int .i64 0), .v (.int .i64 5), .v (.int .i64 0)], .one (.v (.int .i64 13))], .s (.agg [.v (.int .i64 10), .v (.int .i64 0)])⟩
theorem k_91 : Known Tryz.prog r_91.f r_91.l r_91.v := row_nowT tabk_2 (by kernel_rfl)
def r_92 : Row := ⟨26, [.agg [.v (.int .i64 0), .v (.int .i64 4), .v (.int .i64 1)], .agg [.v (.int .i64 0), .v (.int .i64 5), .v (.int .i64 1)], .one (.v (.int .i64 13))], .s (.agg [.v (.int .i64 1), .v (.int .i64 4)])⟩
theorem k_92 : Known Tryz.prog r_92.f r_92.l r_92.v := row_nowT tabk_2 (by kernel_rfl)
def r_93 : Row := ⟨26, [.agg [.v (.int .i64 0), .v (.int .i64 1), .v (.int .i64 1000)], .agg [.v (.int .i64 0), .v (.int .i64 1000000000), .v (.int .i64 0)], .one (.v (.int .i64 15))], .s (.agg [.v (.int .i64 1000000000000), .v (.int .i64 1)])⟩
theorem k_93 : Known Tryz.prog r_93.f r_93.l r_93.v := row_nowT tabk_2 (by kernel_rfl)
def r_94 : Row := ⟨26, [.agg [.v (.int .i64 0), .v (.int .i64 7), .v (.int .i64 0)], .agg [.v (.int .i64 0), .v (.int .i64 5), .v (.int .i64 0)], .one (.v (.int .i64 11))], .s (.agg [.v (.int .i64 0), .v (.int .i64 1)])⟩
theorem k_94 : Known Tryz.prog r_94.f r_94.l r_94.v := row_nowT tabk_2 (by kernel_rfl)
def r_95 : Row := ⟨26, [.agg [.v (.int .i64 0), .v (.int .i64 5), .v (.int .i64 0)], .agg [.v (.int .i64 0), .v (.int .i64 7), .v (.int .i64 0)], .one (.v (.int .i64 11))], .s (.agg [.v (.int .i64 0), .v (.int .i64 1)])⟩
theorem k_95 : Known Tryz.prog r_95.f r_95.l r_95.v := row_nowT tabk_2 (by kernel_rfl)
end Go.Proofs.YtmckghoaggopnacGreat.Y
