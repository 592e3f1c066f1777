/-
  ChanceKnown by one run.
-/
import Derived.Test.YtchmpdkicbmnfaaGreatMRyK1
set_option linter.all false
namespace Go.Proofs.YtchmpdkicbmnfaaGreat.Y
open Go Go.Ry Go.RowKit
def rK : Row := ⟨3, [], .s (.one (.v (.bool true)))⟩
theorem k_known : Known Tryz.prog rK.f rK.l rK.v := row_now rowsk_w (by kernel_rfl)
end Go.Proofs.YtchmpdkicbmnfaaGreat.Y
