/-
  Calls that are known: the table that their runs look into.
-/
import Derived.Test.YtmckghoaggopnaaGreatMRyK2a
import Derived.Test.YtmckghoaggopnaaGreatMRyK2b
import Derived.Test.YtmckghoaggopnaaGreatMRyK2c
import Derived.Test.YtmckghoaggopnaaGreatMRyK2d
import Derived.Test.YtmckghoaggopnaaGreatMRyK2e
set_option linter.all false
namespace Go.Proofs.YtmckghoaggopnaaGreat.Y
open Go Go.Ry Go.RowKit
def tab_3 : Tab := ⟨(rs_1a ++ (rs_1b ++ (rs_1c ++ (rs_1d ++ rs_2e)))), famC, (ds_2a ++ (ds_2b ++ (ds_2c ++ ds_2d)))⟩
theorem tabk_3 : TabKnown tab_3 := ⟨List.forall_mem_append.2 ⟨rs_1a_k, List.forall_mem_append.2 ⟨rs_1b_k, List.forall_mem_append.2 ⟨rs_1c_k, List.forall_mem_append.2 ⟨rs_1d_k, rs_2e_k⟩⟩⟩⟩, famC_known, List.forall_mem_append.2 ⟨ds_2a_k, List.forall_mem_append.2 ⟨ds_2b_k, List.forall_mem_append.2 ⟨ds_2c_k, ds_2d_k⟩⟩⟩⟩

end Go.Proofs.YtmckghoaggopnaaGreat.Y
