/-
  Calls that are known, each by one run.
-/
import Derived.Test.YtmckghoaggopnadGreatMRyK3
set_option linter.all false
namespace Go.Proofs.YtmckghoaggopnadGreat.Y
open Go Go.Ry Go.RowKit
def r_85 : Row := ⟨4, [], .s (.one (.v (.bool true)))⟩
set_option maxRecDepth 1000000 in
theorem k_85 : Known Tryz.prog r_85.f r_85.l r_85.v := row_nowT tabk_3 (by kernel_rfl)
def rs_3a : List Row := [r_85]
theorem rs_3a_k : ∀ r ∈ rs_3a, Known Tryz.prog r.f r.l r.v := List.forall_mem_cons.2 ⟨k_85, (fun _ h => by cases h)⟩
end Go.Proofs.YtmckghoaggopnadGreat.Y
