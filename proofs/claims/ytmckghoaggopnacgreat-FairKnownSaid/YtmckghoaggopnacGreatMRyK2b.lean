/-
  Calls that are known, each by one run.
-/
import Derived.Test.YtmckghoaggopnacGreatMRyK2
set_option linter.all false
namespace Go.Proofs.YtmckghoaggopnacGreat.Y
open Go Go.Ry Go.RowKit
def r_77 : Row := ⟨26, [.agg [.v (.int .i64 1), .v (.int .i64 5), .v (.int .i64 1)], .agg [.v (.int .i64 2), .v (.int .i64 3), .v (.int .i64 0)], .one (.v (.int .i64 14))], .s (.agg [.v (.int .i64 3), .v (.int .i64 15)])⟩
theorem k_77 : Known Tryz.prog r_77.f r_77.l r_77.v := row_nowT tabk_2 (by kernel_rfl)
def r_78 : Row := ⟨26, [.agg [.v (.int .i64 1), .v (.int .i64 5), .v (.int .i64 0)], .agg [.v (.int .i64 2), .v (.int .i64 3), .v (.int .i64 1)], .one (.v (.int .i64 14))], .s (.agg [.v (.int .i64 5), .v (.int .i64 15)])⟩
theorem k_78 : Known Tryz.prog r_78.f r_78.l r_78.v := row_nowT tabk_2 (by kernel_rfl)
def r_79 : Row := ⟨26, [.agg [.v (.int .i64 0), .v (.int .i64 9), .v (.int .i64 2)], .agg [.v (.int .i64 0), .v (.int .i64 5), .v (.int .i64 1)], .one (.v (.int .i64 14))], .s (.agg [.v (.int .i64 1), .v (.int .i64 45)])⟩
theorem k_79 : Known Tryz.prog r_79.f r_79.l r_79.v := row_nowT tabk_2 (by kernel_rfl)
def r_80 : Row := ⟨26, [.agg [.v (.int .i64 0), .v (.int .i64 5), .v (.int .i64 1)], .agg [.v (.int .i64 0), .v (.int .i64 9), .v (.int .i64 2)], .one (.v (.int .i64 14))], .s (.agg [.v (.int .i64 1), .v (.int .i64 45)])⟩
theorem k_80 : Known Tryz.prog r_80.f r_80.l r_80.v := row_nowT tabk_2 (by kernel_rfl)
def r_81 : Row := ⟨26, [.agg [.v (.int .i64 0), .v (.int .i64 9), .v (.int .i64 2)], .agg [.v (.int .i64 0), .v (.int .i64 5), .v (.int .i64 1)], .one (.v (.int .i64 12))], .s (.agg [.v (.int .i64 1), .v (.int .i64 2)])⟩
theorem k_81 : Known Tryz.prog r_81.f r_81.l r_81.v := row_nowT tabk_2 (by kernel_rfl)
def r_82 : Row := ⟨26, [.agg [.v (.int .i64 0), .v (.int .i64 5), .v (.int .i64 1)], .agg [.v (.int .i64 0), .v (.int .i64 9), .v (.int .i64 2)], .one (.v (.int .i64 12))], .s (.agg [.v (.int .i64 1), .v (.int .i64 2)])⟩
theorem k_82 : Known Tryz.prog r_82.f r_82.l r_82.v := row_nowT tabk_2 (by kernel_rfl)
def r_83 : Row := ⟨26, [.agg [.v (.int .i64 0), .v (.int .i64 9), .v (.int .i64 2)], .agg [.v (.int .i64 0), .v (.int .i64 5), .v (.int .i64 1)], .one (.v (.int .i64 13))], .s (.agg [.v (.int .i64 1), .v (.int .i64 9)])⟩
theorem k_83 : Known Tryz.prog r_83.f r_83.l r_83.v := row_nowT tabk_2 (by kernel_rfl)
def r_84 : Row := ⟨26, [.agg [.v (.int .i64 0), .v (.int .i64 5), .v (.int .i64 1)], .agg [.v (.int .i64 0), .v (.int .i64 9), .v (.int .i64 2)], .one (.v (.int .i64 13))], .s (.agg [.v (.int .i64 1), .v (.int .i64 9)])⟩
theorem k_84 : Known Tryz.prog r_84.f r_84.l r_84.v := row_nowT tabk_2 (by kernel_rfl)
def r_85 : Row := ⟨26, [.agg [.v (.int .i64 0), .v (.int .i64 9), .v (.int .i64 2)], .agg [.v (.int .i64 0), .v (.int .i64 5), .v (.int .i64 1)], .one (.v (.int .i64 11))], .s (.agg [.v (.int .i64 1), .v (.int .i64 5)])⟩
theorem k_85 : Known Tryz.prog r_85.f r_85.l r_85.v := row_nowT tabk_2 (by kernel_rfl)
def r_86 : Row := ⟨26, [.agg [.v (.int .i64 0), .v (.int .i64 5), .v (.int .i64 1)], .agg [.v (.int .i64 0), .v (.int .i64 9), .v (.int .i64 2)], .one (.v (.int .i64 11))], .s (.agg [.v (.int .i64 1), .v (.int .i64 5)])⟩
theorem k_86 : Known Tryz.prog r_86.f r_86.l r_86.v := row_nowT tabk_2 (by kernel_rfl)
def r_87 : Row := ⟨26, [.agg [.v (.int .i64 0), .v (.int .i64 9), .v (.int .i64 2)], .agg [.v (.int .i64 0), .v (.int .i64 5), .v (.int .i64 1)], .one (.v (.int .i64 15))], .s (.agg [.v (.int .i64 1), .v (.int .i64 9)])⟩
theorem k_87 : Known Tryz.prog r_87.f r_87.l r_87.v := row_nowT tabk_2 (by kernel_rfl)
def r_88 : Row := ⟨26, [.agg [.v (.int .i64 0), .v (.int .i64 5), .v (.int .i64 1)], .agg [.v (.int .i64 0), .v (.int .i64 9), .v (.int .i64 2)], .one (.v (.int .i64 15))], .s (.agg [.v (.int .i64 1), .v (.int .i64 9)])⟩
theorem k_88 : Known Tryz.prog r_88.f r_88.l r_88.v := row_nowT tabk_2 (by kernel_rfl)
def r_89 : Row := ⟨26, [.agg [.v (.int .i64 0), .v (.int .i64 4), .v (.int .i64 1)], .agg [.v (.int .i64 0), .v (.int .i64 5), .v (.int .i64 0)], .one (.v (.int .i64 12))], .s (.agg [.v (.int .i64 5), .v (.int .i64 0)])⟩
theorem k_89 : Known Tryz.prog r_89.f r_89.l r_89.v := row_nowT tabk_2 (by kernel_rfl)
def r_90 : Row := ⟨26, [.agg [.v (.int .i64 0), .v (.int .i64 4), .v (.int .i64 0)], .agg [.v (.int .i64 0), .v (.int .i64 5), .v (.int .i64 1)], .one (.v (.int .i64 12))], .s (.agg [.v (.int .i64 4), .v (.int .i64 0)])⟩
theorem k_90 : Known Tryz.prog r_90.f r_90.l r_90.v := row_nowT tabk_2 (by kernel_rfl)
end Go.Proofs.YtmckghoaggopnacGreat.Y
