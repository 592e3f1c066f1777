/-
  The law, by one run.
-/
import Derived.Test.YtmckghoaggopnaaGreatMRyK3a
set_option linter.all false
namespace Go.Proofs.YtmckghoaggopnaaGreat.Y
open Go Go.Ry Go.RowKit
def tab_4 : Tab := ⟨(rs_1a ++ (rs_1b ++ (rs_1c ++ (rs_1d ++ (rs_2e ++ rs_3a))))), famC, (ds_2a ++ (ds_2b ++ (ds_2c ++ ds_2d)))⟩
theorem tabk_4 : TabKnown tab_4 := ⟨List.forall_mem_append.2 ⟨rs_1a_k, List.forall_mem_append.2 ⟨rs_1b_k, List.forall_mem_append.2 ⟨rs_1c_k, List.forall_mem_append.2 ⟨rs_1d_k, List.forall_mem_append.2 ⟨rs_2e_k, rs_3a_k⟩⟩⟩⟩⟩, famC_known, List.forall_mem_append.2 ⟨ds_2a_k, List.forall_mem_append.2 ⟨ds_2b_k, List.forall_mem_append.2 ⟨ds_2c_k, ds_2d_k⟩⟩⟩⟩
def rK : Row := ⟨3, [], .s (.one (.v (.bool true)))⟩
set_option maxRecDepth 1000000 in
theorem k_known : Known Tryz.prog rK.f rK.l rK.v := row_nowT tabk_4 (by kernel_rfl)
end Go.Proofs.YtmckghoaggopnaaGreat.Y
