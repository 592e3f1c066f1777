/-
  Calls that are known, each by one run.
-/
import Derived.Test.YtmckghoaggopnaeGreatMRyK4
set_option linter.all false
namespace Go.Proofs.YtmckghoaggopnaeGreat.Y
open Go Go.Ry Go.RowKit
def r_39 : Row := ⟨4, [], .s (.one (.v (.bool true)))⟩
set_option maxRecDepth 1000000 in
theorem k_39 : Known Tryz.prog r_39.f r_39.l r_39.v := row_nowT tabk_4 (by kernel_rfl)
def rs_4a : List Row := [r_39]
theorem rs_4a_k : ∀ r ∈ rs_4a, Known Tryz.prog r.f r.l r.v := List.forall_mem_cons.2 ⟨k_39, (fun _ h => by cases h)⟩
end Go.Proofs.YtmckghoaggopnaeGreat.Y
