/-
  Calls that are known, each by one run.
-/
import Derived.Test.YtmckghoaggopnaaGreatMRyK2
set_option linter.all false
namespace Go.Proofs.YtmckghoaggopnaaGreat.Y
open Go Go.Ry Go.RowKit
def r_54 : Row := ⟨10, [.one (.v (.slice none 0 0)), .one (.v (.int .i64 0)), .one (.v (.int .i64 0)), .one (.v (.slice none 0 0))], .tup [.one (.v (.slice none 0 0)), .one (.v (.int .i64 60))]⟩
theorem k_54 : Known Tryz.prog r_54.f r_54.l r_54.v := row_nowT tabk_2 (by kernel_rfl)
end Go.Proofs.YtmckghoaggopnaaGreat.Y
