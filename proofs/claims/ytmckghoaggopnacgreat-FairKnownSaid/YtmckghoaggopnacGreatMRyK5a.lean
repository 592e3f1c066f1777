/-
  Calls that are known, each by one run.
-/
import Derived.Test.YtmckghoaggopnacGreatMRyK5
set_option linter.all false
namespace Go.Proofs.YtmckghoaggopnacGreat.Y
open Go Go.Ry Go.RowKit
def r_187 : Row := ⟨4, [], .s (.one (.v (.bool true)))⟩
theorem k_187 : Known Tryz.prog r_187.f r_187.l r_187.v := row_nowT tabk_5 (by kernel_rfl)
end Go.Proofs.YtmckghoaggopnacGreat.Y
