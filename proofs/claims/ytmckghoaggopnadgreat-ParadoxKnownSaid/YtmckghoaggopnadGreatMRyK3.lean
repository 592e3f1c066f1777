/-
  Calls that are known: the table that their runs look into.
-/
import Derived.Test.YtmckghoaggopnadGreatMRyK2a
import Derived.Test.YtmckghoaggopnadGreatMRyK2b
import Derived.Test.YtmckghoaggopnadGreatMRyK2c
import Derived.Test.YtmckghoaggopnadGreatMRyK2d
import Derived.Test.YtmckghoaggopnadGreatMRyK2e
import Derived.Test.YtmckghoaggopnadGreatMRyK2f
set_option linter.all false
namespace Go.Proofs.YtmckghoaggopnadGreat.Y
open Go Go.Ry Go.RowKit
def tab_3 : Tab := ⟨(rs_2b ++ rs_2d), fun _ _ => none, (ds_1a ++ (ds_1b ++ (ds_1c ++ (ds_2a ++ (ds_2b ++ (ds_2c ++ (ds_2d ++ (ds_2e ++ ds_2f))))))))⟩
theorem tabk_3 : TabKnown tab_3 := ⟨List.forall_mem_append.2 ⟨rs_2b_k, rs_2d_k⟩, fun _ _ _ h => (by cases h), List.forall_mem_append.2 ⟨ds_1a_k, List.forall_mem_append.2 ⟨ds_1b_k, List.forall_mem_append.2 ⟨ds_1c_k, List.forall_mem_append.2 ⟨ds_2a_k, List.forall_mem_append.2 ⟨ds_2b_k, List.forall_mem_append.2 ⟨ds_2c_k, List.forall_mem_append.2 ⟨ds_2d_k, List.forall_mem_append.2 ⟨ds_2e_k, ds_2f_k⟩⟩⟩⟩⟩⟩⟩⟩⟩

end Go.Proofs.YtmckghoaggopnadGreat.Y
