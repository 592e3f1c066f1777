/-
  Calls that are known, each by one run.
-/
import Derived.Test.YtmckghoaggopnacGreatMRyK3
set_option linter.all false
namespace Go.Proofs.YtmckghoaggopnacGreat.Y
open Go Go.Ry Go.RowKit
def r_152 : Row := ⟨12, [.one (.v (.int .i64 11)), .one (.v (.int .i64 7)), .one (.v (.int .i64 0)), .one (.v (.int .i64 5)), .one (.v (.int .i64 0)), .one (.v (.int .i64 0)), .one (.v (.int .i64 1))], .s (.one (.v (.bool true)))⟩
theorem k_152 : Known Tryz.prog r_152.f r_152.l r_152.v := row_nowT tabk_3 (by kernel_rfl)
end Go.Proofs.YtmckghoaggopnacGreat.Y
