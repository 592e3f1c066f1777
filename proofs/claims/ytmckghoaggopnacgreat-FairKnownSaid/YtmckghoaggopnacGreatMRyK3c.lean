/-
  Calls that are known, each by one run.
-/
import Derived.Test.YtmckghoaggopnacGreatMRyK3
set_option linter.all false
namespace Go.Proofs.YtmckghoaggopnacGreat.Y
open Go Go.Ry Go.RowKit
def r_124 : Row := ⟨8, [.one (.v (.int .i64 11)), .one (.v (.int .i64 7)), .one (.v (.int .i64 0)), .one (.v (.int .i64 5)), .one (.v (.int .i64 0))], .tup [.agg [.v (.int .u64 0), .v (.int .u64 0), .v (.int .u64 0), .v (.int .u64 0), .v (.int .u64 0), .v (.int .u64 0), .v (.int .u64 0), .v (.int .u64 0), .v (.int .u64 1), .v (.int .u64 0), .v (.int .u64 0), .v (.int .u64 0), .v (.int .u64 0), .v (.int .u64 0), .v (.int .u64 0), .v (.int .u64 0)], .one (.v (.int .i64 0))]⟩
theorem k_124 : Known Tryz.prog r_124.f r_124.l r_124.v := row_nowT tabk_3 (by kernel_rfl)
def r_125 : Row := ⟨8, [.one (.v (.int .i64 11)), .one (.v (.int .i64 5)), .one (.v (.int .i64 0)), .one (.v (.int .i64 7)), .one (.v (.int .i64 0))], .tup [.agg [.v (.int .u64 0), .v (.int .u64 0), .v (.int .u64 0), .v (.int .u64 0), .v (.int .u64 0), .v (.int .u64 0), .v (.int .u64 0), .v (.int .u64 0), .v (.int .u64 1), .v (.int .u64 0), .v (.int .u64 0), .v (.int .u64 0), .v (.int .u64 0), .v (.int .u64 0), .v (.int .u64 0), .v (.int .u64 0)], .one (.v (.int .i64 0))]⟩
theorem k_125 : Known Tryz.prog r_125.f r_125.l r_125.v := row_nowT tabk_3 (by kernel_rfl)
def r_126 : Row := ⟨9, [.one (.v (.int .i64 14)), .one (.v (.int .i64 9)), .one (.v (.int .i64 3)), .one (.v (.int .i64 3)), .one (.v (.int .i64 0))], .tup [.one (.v (.bool true)), .one (.v (.int .i64 0))]⟩
theorem k_126 : Known Tryz.prog r_126.f r_126.l r_126.v := row_nowT tabk_3 (by kernel_rfl)
def r_127 : Row := ⟨9, [.one (.v (.int .i64 15)), .one (.v (.int .i64 9)), .one (.v (.int .i64 3)), .one (.v (.int .i64 3)), .one (.v (.int .i64 0))], .tup [.one (.v (.bool false)), .one (.v (.int .i64 0))]⟩
theorem k_127 : Known Tryz.prog r_127.f r_127.l r_127.v := row_nowT tabk_3 (by kernel_rfl)
def r_128 : Row := ⟨9, [.one (.v (.int .i64 10)), .one (.v (.int .i64 1)), .one (.v (.int .i64 1)), .one (.v (.int .i64 1)), .one (.v (.int .i64 1))], .tup [.one (.v (.bool false)), .one (.v (.int .i64 2))]⟩
theorem k_128 : Known Tryz.prog r_128.f r_128.l r_128.v := row_nowT tabk_3 (by kernel_rfl)
def r_129 : Row := ⟨9, [.one (.v (.int .i64 16)), .one (.v (.int .i64 1)), .one (.v (.int .i64 1)), .one (.v (.int .i64 1)), .one (.v (.int .i64 1))], .tup [.one (.v (.bool false)), .one (.v (.int .i64 2))]⟩
theorem k_129 : Known Tryz.prog r_129.f r_129.l r_129.v := row_nowT tabk_3 (by kernel_rfl)
def r_130 : Row := ⟨9, [.one (.v (.int .i64 14)), .one (.v (.int .i64 0)), .one (.v (.int .i64 1)), .one (.v (.int .i64 1)), .one (.v (.int .i64 1))], .tup [.one (.v (.bool false)), .one (.v (.int .i64 2))]⟩
theorem k_130 : Known Tryz.prog r_130.f r_130.l r_130.v := row_nowT tabk_3 (by kernel_rfl)
def r_131 : Row := ⟨9, [.one (.v (.int .i64 14)), .one (.v (.int .i64 1)), .one (.v (.int .i64 (-1))), .one (.v (.int .i64 1)), .one (.v (.int .i64 1))], .tup [.one (.v (.bool false)), .one (.v (.int .i64 2))]⟩
theorem k_131 : Known Tryz.prog r_131.f r_131.l r_131.v := row_nowT tabk_3 (by kernel_rfl)
def r_132 : Row := ⟨9, [.one (.v (.int .i64 14)), .one (.v (.int .i64 1)), .one (.v (.int .i64 1001)), .one (.v (.int .i64 1)), .one (.v (.int .i64 1))], .tup [.one (.v (.bool false)), .one (.v (.int .i64 2))]⟩
theorem k_132 : Known Tryz.prog r_132.f r_132.l r_132.v := row_nowT tabk_3 (by kernel_rfl)
def r_133 : Row := ⟨9, [.one (.v (.int .i64 14)), .one (.v (.int .i64 1)), .one (.v (.int .i64 1)), .one (.v (.int .i64 0)), .one (.v (.int .i64 1))], .tup [.one (.v (.bool false)), .one (.v (.int .i64 2))]⟩
theorem k_133 : Known Tryz.prog r_133.f r_133.l r_133.v := row_nowT tabk_3 (by kernel_rfl)
def r_134 : Row := ⟨9, [.one (.v (.int .i64 14)), .one (.v (.int .i64 1)), .one (.v (.int .i64 1)), .one (.v (.int .i64 1000000001)), .one (.v (.int .i64 1))], .tup [.one (.v (.bool false)), .one (.v (.int .i64 2))]⟩
theorem k_134 : Known Tryz.prog r_134.f r_134.l r_134.v := row_nowT tabk_3 (by kernel_rfl)
def r_135 : Row := ⟨9, [.one (.v (.int .i64 14)), .one (.v (.int .i64 1)), .one (.v (.int .i64 1)), .one (.v (.int .i64 1)), .one (.v (.int .i64 1001))], .tup [.one (.v (.bool false)), .one (.v (.int .i64 2))]⟩
theorem k_135 : Known Tryz.prog r_135.f r_135.l r_135.v := row_nowT tabk_3 (by kernel_rfl)
def r_136 : Row := ⟨9, [.one (.v (.int .i64 14)), .one (.v (.int .i64 1)), .one (.v (.int .i64 0)), .one (.v (.int .i64 1)), .one (.v (.int .i64 1))], .tup [.one (.v (.bool false)), .one (.v (.int .i64 2))]⟩
theorem k_136 : Known Tryz.prog r_136.f r_136.l r_136.v := row_nowT tabk_3 (by kernel_rfl)
def r_137 : Row := ⟨9, [.one (.v (.int .i64 14)), .one (.v (.int .i64 1)), .one (.v (.int .i64 1)), .one (.v (.int .i64 1)), .one (.v (.int .i64 1000))], .tup [.one (.v (.bool false)), .one (.v (.int .i64 2))]⟩
theorem k_137 : Known Tryz.prog r_137.f r_137.l r_137.v := row_nowT tabk_3 (by kernel_rfl)
end Go.Proofs.YtmckghoaggopnacGreat.Y
