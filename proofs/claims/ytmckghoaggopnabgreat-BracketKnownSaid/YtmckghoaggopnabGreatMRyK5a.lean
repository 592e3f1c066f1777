/-
  Calls that are known, each by one run.
-/
import Derived.Test.YtmckghoaggopnabGreatMRyK5
set_option linter.all false
namespace Go.Proofs.YtmckghoaggopnabGreat.Y
open Go Go.Ry Go.RowKit
def r_319 : Row := ⟨4, [], .s (.one (.v (.bool true)))⟩
theorem k_319 : Known Tryz.prog r_319.f r_319.l r_319.v := row_nowT tabk_5 (by kernel_rfl)
def rs_5a : List Row := [r_319]
theorem rs_5a_k : ∀ r ∈ rs_5a, Known Tryz.prog r.f r.l r.v := List.forall_mem_cons.2 ⟨k_319, (fun _ h => by cases h)⟩
end Go.Proofs.YtmckghoaggopnabGreat.Y
