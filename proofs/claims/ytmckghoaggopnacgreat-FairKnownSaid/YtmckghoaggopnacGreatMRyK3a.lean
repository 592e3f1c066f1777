/-
  Calls that are known, each by one run.
-/
import Derived.Test.YtmckghoaggopnacGreatMRyK3
set_option linter.all false
namespace Go.Proofs.YtmckghoaggopnacGreat.Y
open Go Go.Ry Go.RowKit
def r_96 : Row := ⟨18, [.agg [.v (.int .i64 0), .v (.int .i64 9), .v (.int .i64 3)], .agg [.v (.int .i64 0), .v (.int .i64 3), .v (.int .i64 0)], .one (.v (.int .i64 14))], .s (.one (.v (.bool true)))⟩
theorem k_96 : Known Tryz.prog r_96.f r_96.l r_96.v := row_nowT tabk_3 (by kernel_rfl)
def r_97 : Row := ⟨18, [.agg [.v (.int .i64 0), .v (.int .i64 9), .v (.int .i64 3)], .agg [.v (.int .i64 0), .v (.int .i64 3), .v (.int .i64 0)], .one (.v (.int .i64 15))], .s (.one (.v (.bool false)))⟩
theorem k_97 : Known Tryz.prog r_97.f r_97.l r_97.v := row_nowT tabk_3 (by kernel_rfl)
def r_98 : Row := ⟨18, [.agg [.v (.int .i64 0), .v (.int .i64 9), .v (.int .i64 3)], .agg [.v (.int .i64 1), .v (.int .i64 5), .v (.int .i64 1)], .one (.v (.int .i64 14))], .s (.one (.v (.bool false)))⟩
theorem k_98 : Known Tryz.prog r_98.f r_98.l r_98.v := row_nowT tabk_3 (by kernel_rfl)
def r_99 : Row := ⟨18, [.agg [.v (.int .i64 0), .v (.int .i64 9), .v (.int .i64 3)], .agg [.v (.int .i64 2), .v (.int .i64 3), .v (.int .i64 0)], .one (.v (.int .i64 14))], .s (.one (.v (.bool true)))⟩
theorem k_99 : Known Tryz.prog r_99.f r_99.l r_99.v := row_nowT tabk_3 (by kernel_rfl)
def r_100 : Row := ⟨18, [.agg [.v (.int .i64 1), .v (.int .i64 5), .v (.int .i64 1)], .agg [.v (.int .i64 0), .v (.int .i64 9), .v (.int .i64 3)], .one (.v (.int .i64 14))], .s (.one (.v (.bool false)))⟩
theorem k_100 : Known Tryz.prog r_100.f r_100.l r_100.v := row_nowT tabk_3 (by kernel_rfl)
def r_101 : Row := ⟨18, [.agg [.v (.int .i64 1), .v (.int .i64 5), .v (.int .i64 1)], .agg [.v (.int .i64 2), .v (.int .i64 3), .v (.int .i64 0)], .one (.v (.int .i64 14))], .s (.one (.v (.bool false)))⟩
theorem k_101 : Known Tryz.prog r_101.f r_101.l r_101.v := row_nowT tabk_3 (by kernel_rfl)
def r_102 : Row := ⟨18, [.agg [.v (.int .i64 0), .v (.int .i64 4), .v (.int .i64 1)], .agg [.v (.int .i64 0), .v (.int .i64 5), .v (.int .i64 0)], .one (.v (.int .i64 12))], .s (.one (.v (.bool false)))⟩
theorem k_102 : Known Tryz.prog r_102.f r_102.l r_102.v := row_nowT tabk_3 (by kernel_rfl)
def r_103 : Row := ⟨18, [.agg [.v (.int .i64 0), .v (.int .i64 4), .v (.int .i64 2)], .agg [.v (.int .i64 0), .v (.int .i64 5), .v (.int .i64 0)], .one (.v (.int .i64 13))], .s (.one (.v (.bool true)))⟩
theorem k_103 : Known Tryz.prog r_103.f r_103.l r_103.v := row_nowT tabk_3 (by kernel_rfl)
def r_104 : Row := ⟨8, [.one (.v (.int .i64 13)), .one (.v (.int .i64 9)), .one (.v (.int .i64 2)), .one (.v (.int .i64 5)), .one (.v (.int .i64 0))], .tup [.agg [.v (.int .u64 0), .v (.int .u64 0), .v (.int .u64 0), .v (.int .u64 0), .v (.int .u64 0), .v (.int .u64 0), .v (.int .u64 0), .v (.int .u64 0), .v (.int .u64 0), .v (.int .u64 0), .v (.int .u64 0), .v (.int .u64 0), .v (.int .u64 0), .v (.int .u64 0), .v (.int .u64 0), .v (.int .u64 0)], .one (.v (.int .i64 7))]⟩
theorem k_104 : Known Tryz.prog r_104.f r_104.l r_104.v := row_nowT tabk_3 (by kernel_rfl)
def r_105 : Row := ⟨8, [.one (.v (.int .i64 14)), .one (.v (.int .i64 9)), .one (.v (.int .i64 2)), .one (.v (.int .i64 5)), .one (.v (.int .i64 1))], .tup [.agg [.v (.int .u64 1), .v (.int .u64 0), .v (.int .u64 0), .v (.int .u64 0), .v (.int .u64 0), .v (.int .u64 0), .v (.int .u64 0), .v (.int .u64 0), .v (.int .u64 45), .v (.int .u64 0), .v (.int .u64 0), .v (.int .u64 0), .v (.int .u64 0), .v (.int .u64 0), .v (.int .u64 0), .v (.int .u64 0)], .one (.v (.int .i64 0))]⟩
theorem k_105 : Known Tryz.prog r_105.f r_105.l r_105.v := row_nowT tabk_3 (by kernel_rfl)
def r_106 : Row := ⟨8, [.one (.v (.int .i64 14)), .one (.v (.int .i64 5)), .one (.v (.int .i64 1)), .one (.v (.int .i64 9)), .one (.v (.int .i64 2))], .tup [.agg [.v (.int .u64 1), .v (.int .u64 0), .v (.int .u64 0), .v (.int .u64 0), .v (.int .u64 0), .v (.int .u64 0), .v (.int .u64 0), .v (.int .u64 0), .v (.int .u64 45), .v (.int .u64 0), .v (.int .u64 0), .v (.int .u64 0), .v (.int .u64 0), .v (.int .u64 0), .v (.int .u64 0), .v (.int .u64 0)], .one (.v (.int .i64 0))]⟩
theorem k_106 : Known Tryz.prog r_106.f r_106.l r_106.v := row_nowT tabk_3 (by kernel_rfl)
def r_107 : Row := ⟨8, [.one (.v (.int .i64 12)), .one (.v (.int .i64 9)), .one (.v (.int .i64 2)), .one (.v (.int .i64 5)), .one (.v (.int .i64 1))], .tup [.agg [.v (.int .u64 1), .v (.int .u64 0), .v (.int .u64 0), .v (.int .u64 0), .v (.int .u64 0), .v (.int .u64 0), .v (.int .u64 0), .v (.int .u64 0), .v (.int .u64 2), .v (.int .u64 0), .v (.int .u64 0), .v (.int .u64 0), .v (.int .u64 0), .v (.int .u64 0), .v (.int .u64 0), .v (.int .u64 0)], .one (.v (.int .i64 0))]⟩
theorem k_107 : Known Tryz.prog r_107.f r_107.l r_107.v := row_nowT tabk_3 (by kernel_rfl)
def r_108 : Row := ⟨8, [.one (.v (.int .i64 12)), .one (.v (.int .i64 5)), .one (.v (.int .i64 1)), .one (.v (.int .i64 9)), .one (.v (.int .i64 2))], .tup [.agg [.v (.int .u64 1), .v (.int .u64 0), .v (.int .u64 0), .v (.int .u64 0), .v (.int .u64 0), .v (.int .u64 0), .v (.int .u64 0), .v (.int .u64 0), .v (.int .u64 2), .v (.int .u64 0), .v (.int .u64 0), .v (.int .u64 0), .v (.int .u64 0), .v (.int .u64 0), .v (.int .u64 0), .v (.int .u64 0)], .one (.v (.int .i64 0))]⟩
theorem k_108 : Known Tryz.prog r_108.f r_108.l r_108.v := row_nowT tabk_3 (by kernel_rfl)
def r_109 : Row := ⟨8, [.one (.v (.int .i64 13)), .one (.v (.int .i64 9)), .one (.v (.int .i64 2)), .one (.v (.int .i64 5)), .one (.v (.int .i64 1))], .tup [.agg [.v (.int .u64 1), .v (.int .u64 0), .v (.int .u64 0), .v (.int .u64 0), .v (.int .u64 0), .v (.int .u64 0), .v (.int .u64 0), .v (.int .u64 0), .v (.int .u64 9), .v (.int .u64 0), .v (.int .u64 0), .v (.int .u64 0), .v (.int .u64 0), .v (.int .u64 0), .v (.int .u64 0), .v (.int .u64 0)], .one (.v (.int .i64 0))]⟩
theorem k_109 : Known Tryz.prog r_109.f r_109.l r_109.v := row_nowT tabk_3 (by kernel_rfl)
end Go.Proofs.YtmckghoaggopnacGreat.Y
