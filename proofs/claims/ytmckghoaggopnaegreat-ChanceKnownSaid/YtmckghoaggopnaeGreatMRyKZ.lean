/-
  The law, by one run.
-/
import Derived.Test.YtmckghoaggopnaeGreatMRyK4a
import Derived.Test.YtmckghoaggopnaeGreatMRyK4b
import Derived.Test.YtmckghoaggopnaeGreatMRyK4c
import Derived.Test.YtmckghoaggopnaeGreatMRyK4d
set_option linter.all false
namespace Go.Proofs.YtmckghoaggopnaeGreat.Y
open Go Go.Ry Go.RowKit
def tab_5 : Tab := ⟨(rs_1a ++ (rs_2a ++ (rs_2b ++ (rs_2c ++ (rs_3a ++ (rs_3b ++ rs_4a)))))), fun _ _ => none, (ds_3b ++ (ds_4b ++ (ds_4c ++ ds_4d)))⟩
theorem tabk_5 : TabKnown tab_5 := ⟨List.forall_mem_append.2 ⟨rs_1a_k, List.forall_mem_append.2 ⟨rs_2a_k, List.forall_mem_append.2 ⟨rs_2b_k, List.forall_mem_append.2 ⟨rs_2c_k, List.forall_mem_append.2 ⟨rs_3a_k, List.forall_mem_append.2 ⟨rs_3b_k, rs_4a_k⟩⟩⟩⟩⟩⟩, fun _ _ _ h => (by cases h), List.forall_mem_append.2 ⟨ds_3b_k, List.forall_mem_append.2 ⟨ds_4b_k, List.forall_mem_append.2 ⟨ds_4c_k, ds_4d_k⟩⟩⟩⟩
def rK : Row := ⟨3, [], .s (.one (.v (.bool true)))⟩
set_option maxRecDepth 1000000 in
theorem k_known : Known Tryz.prog rK.f rK.l rK.v := row_nowT tabk_5 (by kernel_rfl)
end Go.Proofs.YtmckghoaggopnaeGreat.Y
