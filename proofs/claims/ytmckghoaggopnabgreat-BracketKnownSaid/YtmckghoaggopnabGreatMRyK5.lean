/-
  Calls that are known: the table that their runs look into.
-/
import Derived.Test.YtmckghoaggopnabGreatMRyK4a
import Derived.Test.YtmckghoaggopnabGreatMRyK4b
import Derived.Test.YtmckghoaggopnabGreatMRyK4c
import Derived.Test.YtmckghoaggopnabGreatMRyK4d
import Derived.Test.YtmckghoaggopnabGreatMRyK4e
set_option linter.all false
namespace Go.Proofs.YtmckghoaggopnabGreat.Y
open Go Go.Ry Go.RowKit
def tab_5 : Tab := ⟨(rs_1a ++ (rs_1b ++ (rs_1c ++ (rs_1d ++ (rs_2a ++ (rs_2b ++ (rs_2c ++ (rs_2d ++ (rs_2e ++ (rs_2f ++ (rs_3a ++ (rs_3b ++ (rs_3c ++ (rs_3d ++ (rs_3e ++ (rs_3f ++ (rs_3g ++ (rs_3h ++ (rs_3i ++ (rs_4b ++ (rs_4c ++ rs_4e))))))))))))))))))))), fun _ _ => none, (ds_4a ++ (ds_4b ++ (ds_4c ++ (ds_4d ++ ds_4e))))⟩
theorem tabk_5 : TabKnown tab_5 := ⟨List.forall_mem_append.2 ⟨rs_1a_k, List.forall_mem_append.2 ⟨rs_1b_k, List.forall_mem_append.2 ⟨rs_1c_k, List.forall_mem_append.2 ⟨rs_1d_k, List.forall_mem_append.2 ⟨rs_2a_k, List.forall_mem_append.2 ⟨rs_2b_k, List.forall_mem_append.2 ⟨rs_2c_k, List.forall_mem_append.2 ⟨rs_2d_k, List.forall_mem_append.2 ⟨rs_2e_k, List.forall_mem_append.2 ⟨rs_2f_k, List.forall_mem_append.2 ⟨rs_3a_k, List.forall_mem_append.2 ⟨rs_3b_k, List.forall_mem_append.2 ⟨rs_3c_k, List.forall_mem_append.2 ⟨rs_3d_k, List.forall_mem_append.2 ⟨rs_3e_k, List.forall_mem_append.2 ⟨rs_3f_k, List.forall_mem_append.2 ⟨rs_3g_k, List.forall_mem_append.2 ⟨rs_3h_k, List.forall_mem_append.2 ⟨rs_3i_k, List.forall_mem_append.2 ⟨rs_4b_k, List.forall_mem_append.2 ⟨rs_4c_k, rs_4e_k⟩⟩⟩⟩⟩⟩⟩⟩⟩⟩⟩⟩⟩⟩⟩⟩⟩⟩⟩⟩⟩, fun _ _ _ h => (by cases h), List.forall_mem_append.2 ⟨ds_4a_k, List.forall_mem_append.2 ⟨ds_4b_k, List.forall_mem_append.2 ⟨ds_4c_k, List.forall_mem_append.2 ⟨ds_4d_k, ds_4e_k⟩⟩⟩⟩⟩

end Go.Proofs.YtmckghoaggopnabGreat.Y
