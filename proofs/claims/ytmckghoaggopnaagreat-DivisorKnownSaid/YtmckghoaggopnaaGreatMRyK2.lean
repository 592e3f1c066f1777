/-
  Calls that are known: the table that their runs look into.
-/
import Derived.Test.YtmckghoaggopnaaGreatMRyK1a
import Derived.Test.YtmckghoaggopnaaGreatMRyK1b
import Derived.Test.YtmckghoaggopnaaGreatMRyK1c
import Derived.Test.YtmckghoaggopnaaGreatMRyK1d
set_option linter.all false
namespace Go.Proofs.YtmckghoaggopnaaGreat.Y
open Go Go.Ry Go.RowKit
def tab_2 : Tab := ⟨(rs_1a ++ (rs_1b ++ (rs_1c ++ rs_1d))), famC, []⟩
theorem tabk_2 : TabKnown tab_2 := ⟨List.forall_mem_append.2 ⟨rs_1a_k, List.forall_mem_append.2 ⟨rs_1b_k, List.forall_mem_append.2 ⟨rs_1c_k, rs_1d_k⟩⟩⟩, famC_known, fun _ h => (by cases h)⟩

end Go.Proofs.YtmckghoaggopnaaGreat.Y
