/-
  Calls that are known, each by one run.
-/
import Derived.Test.YtmckghoaggopnaaGreatMRyK2
set_option linter.all false
namespace Go.Proofs.YtmckghoaggopnaaGreat.Y
open Go Go.Ry Go.RowKit
def r_54 : Row := ⟨10, [.one (.v (.slice none 0 0)), .one (.v (.int .i64 0)), .one (.v (.int .i64 0)), .one (.v (.slice none 0 0))], .tup [.one (.v (.slice none 0 0)), .one (.v (.int .i64 60))]⟩
set_option maxRecDepth 1000000 in
theorem k_54 : Known Tryz.prog r_54.f r_54.l r_54.v := row_nowT tabk_2 (by kernel_rfl)
def rs_2e : List Row := [r_54]
theorem rs_2e_k : ∀ r ∈ rs_2e, Known Tryz.prog r.f r.l r.v := List.forall_mem_cons.2 ⟨k_54, (fun _ h => by cases h)⟩
end Go.Proofs.YtmckghoaggopnaaGreat.Y
