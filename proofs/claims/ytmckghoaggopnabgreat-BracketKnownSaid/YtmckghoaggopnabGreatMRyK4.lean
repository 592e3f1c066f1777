/-
  Calls that are known: the table that their runs look into.
-/
import Derived.Test.YtmckghoaggopnabGreatMRyK3a
import Derived.Test.YtmckghoaggopnabGreatMRyK3b
import Derived.Test.YtmckghoaggopnabGreatMRyK3c
import Derived.Test.YtmckghoaggopnabGreatMRyK3d
import Derived.Test.YtmckghoaggopnabGreatMRyK3e
import Derived.Test.YtmckghoaggopnabGreatMRyK3f
import Derived.Test.YtmckghoaggopnabGreatMRyK3g
import Derived.Test.YtmckghoaggopnabGreatMRyK3h
import Derived.Test.YtmckghoaggopnabGreatMRyK3i
set_option linter.all false
namespace Go.Proofs.YtmckghoaggopnabGreat.Y
open Go Go.Ry Go.RowKit
def tab_4 : Tab := ⟨(rs_1a ++ (rs_1b ++ (rs_1c ++ (rs_1d ++ (rs_2a ++ (rs_2b ++ (rs_2c ++ (rs_2d ++ (rs_2e ++ (rs_2f ++ (rs_3a ++ (rs_3b ++ (rs_3c ++ (rs_3d ++ (rs_3e ++ (rs_3f ++ (rs_3g ++ (rs_3h ++ rs_3i)))))))))))))))))), fun _ _ => none, []⟩
theorem tabk_4 : TabKnown tab_4 := ⟨List.forall_mem_append.2 ⟨rs_1a_k, List.forall_mem_append.2 ⟨rs_1b_k, List.forall_mem_append.2 ⟨rs_1c_k, List.forall_mem_append.2 ⟨rs_1d_k, List.forall_mem_append.2 ⟨rs_2a_k, List.forall_mem_append.2 ⟨rs_2b_k, List.forall_mem_append.2 ⟨rs_2c_k, List.forall_mem_append.2 ⟨rs_2d_k, List.forall_mem_append.2 ⟨rs_2e_k, List.forall_mem_append.2 ⟨rs_2f_k, List.forall_mem_append.2 ⟨rs_3a_k, List.forall_mem_append.2 ⟨rs_3b_k, List.forall_mem_append.2 ⟨rs_3c_k, List.forall_mem_append.2 ⟨rs_3d_k, List.forall_mem_append.2 ⟨rs_3e_k, List.forall_mem_append.2 ⟨rs_3f_k, List.forall_mem_append.2 ⟨rs_3g_k, List.forall_mem_append.2 ⟨rs_3h_k, rs_3i_k⟩⟩⟩⟩⟩⟩⟩⟩⟩⟩⟩⟩⟩⟩⟩⟩⟩⟩, fun _ _ _ h => (by cases h), fun _ h => (by cases h)⟩

end Go.Proofs.YtmckghoaggopnabGreat.Y
