/-
  Calls that are known: the table that their runs look into.
-/
import Derived.Test.YtmckghoaggopnaeGreatMRyK3a
import Derived.Test.YtmckghoaggopnaeGreatMRyK3b
set_option linter.all false
namespace Go.Proofs.YtmckghoaggopnaeGreat.Y
open Go Go.Ry Go.RowKit
def tab_4 : Tab := ⟨(rs_1a ++ (rs_2a ++ (rs_2b ++ (rs_2c ++ (rs_3a ++ rs_3b))))), fun _ _ => none, ds_3b⟩
theorem tabk_4 : TabKnown tab_4 := ⟨List.forall_mem_append.2 ⟨rs_1a_k, List.forall_mem_append.2 ⟨rs_2a_k, List.forall_mem_append.2 ⟨rs_2b_k, List.forall_mem_append.2 ⟨rs_2c_k, List.forall_mem_append.2 ⟨rs_3a_k, rs_3b_k⟩⟩⟩⟩⟩, fun _ _ _ h => (by cases h), ds_3b_k⟩

end Go.Proofs.YtmckghoaggopnaeGreat.Y
