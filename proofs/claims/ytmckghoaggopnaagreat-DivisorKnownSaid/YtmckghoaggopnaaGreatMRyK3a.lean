/-
  Calls that are known, each by one run.
-/
import Derived.Test.YtmckghoaggopnaaGreatMRyK3
set_option linter.all false
namespace Go.Proofs.YtmckghoaggopnaaGreat.Y
open Go Go.Ry Go.RowKit
def r_55 : Row := ⟨4, [], .s (.one (.v (.bool true)))⟩
theorem k_55 : Known Tryz.prog r_55.f r_55.l r_55.v := row_nowT tabk_3 (by kernel_rfl)
end Go.Proofs.YtmckghoaggopnaaGreat.Y
