/-
  Calls that are known, each by one run.
-/
import Derived.Test.YtmckghoaggopnaaGreatMRyK3
set_option linter.all false
namespace Go.Proofs.YtmckghoaggopnaaGreat.Y
open Go Go.Ry Go.RowKit
def r_55 : Row := ⟨4, [], .s (.one (.v (.bool true)))⟩
set_option maxRecDepth 1000000 in
theorem k_55 : Known Tryz.prog r_55.f r_55.l r_55.v := row_nowT tabk_3 (by kernel_rfl)
def rs_3a : List Row := [r_55]
theorem rs_3a_k : ∀ r ∈ rs_3a, Known Tryz.prog r.f r.l r.v := List.forall_mem_cons.2 ⟨k_55, (fun _ h => by cases h)⟩
end Go.Proofs.YtmckghoaggopnaaGreat.Y
