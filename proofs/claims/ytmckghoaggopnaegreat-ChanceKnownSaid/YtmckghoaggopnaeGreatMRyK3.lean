/-
  Calls that are known: the table that their runs look into.
-/
import Derived.Test.YtmckghoaggopnaeGreatMRyK2a
import Derived.Test.YtmckghoaggopnaeGreatMRyK2b
import Derived.Test.YtmckghoaggopnaeGreatMRyK2c
set_option linter.all false
namespace Go.Proofs.YtmckghoaggopnaeGreat.Y
open Go Go.Ry Go.RowKit
def tab_3 : Tab := ⟨(rs_1a ++ (rs_2a ++ (rs_2b ++ rs_2c))), fun _ _ => none, []⟩
theorem tabk_3 : TabKnown tab_3 := ⟨List.forall_mem_append.2 ⟨rs_1a_k, List.forall_mem_append.2 ⟨rs_2a_k, List.forall_mem_append.2 ⟨rs_2b_k, rs_2c_k⟩⟩⟩, fun _ _ _ h => (by cases h), fun _ h => (by cases h)⟩

end Go.Proofs.YtmckghoaggopnaeGreat.Y
