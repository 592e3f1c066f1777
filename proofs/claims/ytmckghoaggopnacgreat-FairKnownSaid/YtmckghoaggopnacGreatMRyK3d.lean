/-
  Calls that are known, each by one run.
-/
import Derived.Test.YtmckghoaggopnacGreatMRyK3
set_option linter.all false
namespace Go.Proofs.YtmckghoaggopnacGreat.Y
open Go Go.Ry Go.RowKit
def r_138 : Row := ⟨9, [.one (.v (.int .i64 12)), .one (.v (.int .i64 4)), .one (.v (.int .i64 1)), .one (.v (.int .i64 5)), .one (.v (.int .i64 0))], .tup [.one (.v (.bool false)), .one (.v (.int .i64 0))]⟩
theorem k_138 : Known Tryz.prog r_138.f r_138.l r_138.v := row_nowT tabk_3 (by kernel_rfl)
def r_139 : Row := ⟨9, [.one (.v (.int .i64 13)), .one (.v (.int .i64 4)), .one (.v (.int .i64 2)), .one (.v (.int .i64 5)), .one (.v (.int .i64 0))], .tup [.one (.v (.bool true)), .one (.v (.int .i64 0))]⟩
theorem k_139 : Known Tryz.prog r_139.f r_139.l r_139.v := row_nowT tabk_3 (by kernel_rfl)
def r_140 : Row := ⟨11, [.one (.v (.int .i64 1)), .one (.v (.int .i64 9))], .s (.agg [.v (.int .u64 1), .v (.int .u64 0), .v (.int .u64 0), .v (.int .u64 0), .v (.int .u64 0), .v (.int .u64 0), .v (.int .u64 0), .v (.int .u64 0), .v (.int .u64 9), .v (.int .u64 0), .v (.int .u64 0), .v (.int .u64 0), .v (.int .u64 0), .v (.int .u64 0), .v (.int .u64 0), .v (.int .u64 0)])⟩
theorem k_140 : Known Tryz.prog r_140.f r_140.l r_140.v := row_nowT tabk_3 (by kernel_rfl)
def r_141 : Row := ⟨11, [.one (.v (.int .i64 1)), .one (.v (.int .i64 45))], .s (.agg [.v (.int .u64 1), .v (.int .u64 0), .v (.int .u64 0), .v (.int .u64 0), .v (.int .u64 0), .v (.int .u64 0), .v (.int .u64 0), .v (.int .u64 0), .v (.int .u64 45), .v (.int .u64 0), .v (.int .u64 0), .v (.int .u64 0), .v (.int .u64 0), .v (.int .u64 0), .v (.int .u64 0), .v (.int .u64 0)])⟩
theorem k_141 : Known Tryz.prog r_141.f r_141.l r_141.v := row_nowT tabk_3 (by kernel_rfl)
def r_142 : Row := ⟨11, [.one (.v (.int .i64 1)), .one (.v (.int .i64 2))], .s (.agg [.v (.int .u64 1), .v (.int .u64 0), .v (.int .u64 0), .v (.int .u64 0), .v (.int .u64 0), .v (.int .u64 0), .v (.int .u64 0), .v (.int .u64 0), .v (.int .u64 2), .v (.int .u64 0), .v (.int .u64 0), .v (.int .u64 0), .v (.int .u64 0), .v (.int .u64 0), .v (.int .u64 0), .v (.int .u64 0)])⟩
theorem k_142 : Known Tryz.prog r_142.f r_142.l r_142.v := row_nowT tabk_3 (by kernel_rfl)
def r_143 : Row := ⟨11, [.one (.v (.int .i64 1)), .one (.v (.int .i64 5))], .s (.agg [.v (.int .u64 1), .v (.int .u64 0), .v (.int .u64 0), .v (.int .u64 0), .v (.int .u64 0), .v (.int .u64 0), .v (.int .u64 0), .v (.int .u64 0), .v (.int .u64 5), .v (.int .u64 0), .v (.int .u64 0), .v (.int .u64 0), .v (.int .u64 0), .v (.int .u64 0), .v (.int .u64 0), .v (.int .u64 0)])⟩
theorem k_143 : Known Tryz.prog r_143.f r_143.l r_143.v := row_nowT tabk_3 (by kernel_rfl)
def r_144 : Row := ⟨11, [.one (.v (.int .i64 (-1))), .one (.v (.int .i64 3))], .s (.agg [.v (.int .u64 18446744073709551615), .v (.int .u64 18446744073709551615), .v (.int .u64 18446744073709551615), .v (.int .u64 18446744073709551615), .v (.int .u64 18446744073709551615), .v (.int .u64 18446744073709551615), .v (.int .u64 18446744073709551615), .v (.int .u64 18446744073709551615), .v (.int .u64 3), .v (.int .u64 0), .v (.int .u64 0), .v (.int .u64 0), .v (.int .u64 0), .v (.int .u64 0), .v (.int .u64 0), .v (.int .u64 0)])⟩
theorem k_144 : Known Tryz.prog r_144.f r_144.l r_144.v := row_nowT tabk_3 (by kernel_rfl)
def r_145 : Row := ⟨11, [.one (.v (.int .i64 1000000000000)), .one (.v (.int .i64 1))], .s (.agg [.v (.int .u64 1000000000000), .v (.int .u64 0), .v (.int .u64 0), .v (.int .u64 0), .v (.int .u64 0), .v (.int .u64 0), .v (.int .u64 0), .v (.int .u64 0), .v (.int .u64 1), .v (.int .u64 0), .v (.int .u64 0), .v (.int .u64 0), .v (.int .u64 0), .v (.int .u64 0), .v (.int .u64 0), .v (.int .u64 0)])⟩
theorem k_145 : Known Tryz.prog r_145.f r_145.l r_145.v := row_nowT tabk_3 (by kernel_rfl)
def r_146 : Row := ⟨11, [.one (.v (.int .i64 0)), .one (.v (.int .i64 1))], .s (.agg [.v (.int .u64 0), .v (.int .u64 0), .v (.int .u64 0), .v (.int .u64 0), .v (.int .u64 0), .v (.int .u64 0), .v (.int .u64 0), .v (.int .u64 0), .v (.int .u64 1), .v (.int .u64 0), .v (.int .u64 0), .v (.int .u64 0), .v (.int .u64 0), .v (.int .u64 0), .v (.int .u64 0), .v (.int .u64 0)])⟩
theorem k_146 : Known Tryz.prog r_146.f r_146.l r_146.v := row_nowT tabk_3 (by kernel_rfl)
def r_147 : Row := ⟨12, [.one (.v (.int .i64 14)), .one (.v (.int .i64 9)), .one (.v (.int .i64 2)), .one (.v (.int .i64 5)), .one (.v (.int .i64 1)), .one (.v (.int .i64 1)), .one (.v (.int .i64 45))], .s (.one (.v (.bool true)))⟩
theorem k_147 : Known Tryz.prog r_147.f r_147.l r_147.v := row_nowT tabk_3 (by kernel_rfl)
def r_148 : Row := ⟨12, [.one (.v (.int .i64 12)), .one (.v (.int .i64 9)), .one (.v (.int .i64 2)), .one (.v (.int .i64 5)), .one (.v (.int .i64 1)), .one (.v (.int .i64 1)), .one (.v (.int .i64 2))], .s (.one (.v (.bool true)))⟩
theorem k_148 : Known Tryz.prog r_148.f r_148.l r_148.v := row_nowT tabk_3 (by kernel_rfl)
def r_149 : Row := ⟨12, [.one (.v (.int .i64 13)), .one (.v (.int .i64 9)), .one (.v (.int .i64 2)), .one (.v (.int .i64 5)), .one (.v (.int .i64 1)), .one (.v (.int .i64 1)), .one (.v (.int .i64 9))], .s (.one (.v (.bool true)))⟩
theorem k_149 : Known Tryz.prog r_149.f r_149.l r_149.v := row_nowT tabk_3 (by kernel_rfl)
def r_150 : Row := ⟨12, [.one (.v (.int .i64 11)), .one (.v (.int .i64 9)), .one (.v (.int .i64 2)), .one (.v (.int .i64 5)), .one (.v (.int .i64 1)), .one (.v (.int .i64 1)), .one (.v (.int .i64 5))], .s (.one (.v (.bool true)))⟩
theorem k_150 : Known Tryz.prog r_150.f r_150.l r_150.v := row_nowT tabk_3 (by kernel_rfl)
def r_151 : Row := ⟨12, [.one (.v (.int .i64 15)), .one (.v (.int .i64 9)), .one (.v (.int .i64 2)), .one (.v (.int .i64 5)), .one (.v (.int .i64 1)), .one (.v (.int .i64 1)), .one (.v (.int .i64 9))], .s (.one (.v (.bool true)))⟩
theorem k_151 : Known Tryz.prog r_151.f r_151.l r_151.v := row_nowT tabk_3 (by kernel_rfl)
end Go.Proofs.YtmckghoaggopnacGreat.Y
