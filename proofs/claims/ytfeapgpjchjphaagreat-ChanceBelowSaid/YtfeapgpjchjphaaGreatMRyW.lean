/-
  works(), by one run.
-/
import Derived.Test.YtfeapgpjchjphaaGreatMRN
import Derived.Test.YtfeapgpjchjphaaGreatMRM
set_option linter.all false
namespace Go.Proofs.YtfeapgpjchjphaaGreat.Y
open Go Go.Ry Go.RowKit
def r_works : Row := ⟨5, [], .s (.one (.v (.bool true)))⟩
theorem k_works : Known Tryz.prog r_works.f r_works.l r_works.v := row_knownF env0 (fuel := 5000) (by kernel_rfl)
end Go.Proofs.YtfeapgpjchjphaaGreat.Y
