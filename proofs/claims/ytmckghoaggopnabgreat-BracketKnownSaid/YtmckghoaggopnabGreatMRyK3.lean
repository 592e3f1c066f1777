/-
  Calls that are known: the table that their runs look into.
-/
import Derived.Test.YtmckghoaggopnabGreatMRyK2a
import Derived.Test.YtmckghoaggopnabGreatMRyK2b
import Derived.Test.YtmckghoaggopnabGreatMRyK2c
import Derived.Test.YtmckghoaggopnabGreatMRyK2d
import Derived.Test.YtmckghoaggopnabGreatMRyK2e
import Derived.Test.YtmckghoaggopnabGreatMRyK2f
set_option linter.all false
namespace Go.Proofs.YtmckghoaggopnabGreat.Y
open Go Go.Ry Go.RowKit
def tab_3 : Tab := ⟨(rs_1a ++ (rs_1b ++ (rs_1c ++ (rs_1d ++ (rs_2a ++ (rs_2b ++ (rs_2c ++ (rs_2d ++ (rs_2e ++ rs_2f))))))))), fun _ _ => none, []⟩
theorem tabk_3 : TabKnown tab_3 := ⟨List.forall_mem_append.2 ⟨rs_1a_k, List.forall_mem_append.2 ⟨rs_1b_k, List.forall_mem_append.2 ⟨rs_1c_k, List.forall_mem_append.2 ⟨rs_1d_k, List.forall_mem_append.2 ⟨rs_2a_k, List.forall_mem_append.2 ⟨rs_2b_k, List.forall_mem_append.2 ⟨rs_2c_k, List.forall_mem_append.2 ⟨rs_2d_k, List.forall_mem_append.2 ⟨rs_2e_k, rs_2f_k⟩⟩⟩⟩⟩⟩⟩⟩⟩, fun _ _ _ h => (by cases h), fun _ h => (by cases h)⟩

end Go.Proofs.YtmckghoaggopnabGreat.Y
