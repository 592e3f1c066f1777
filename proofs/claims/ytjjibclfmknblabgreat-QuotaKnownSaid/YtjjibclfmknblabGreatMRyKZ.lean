/-
  The law, by one run.
-/
import Derived.Test.YtjjibclfmknblabGreatMRyK3a
set_option linter.all false
namespace Go.Proofs.YtjjibclfmknblabGreat.Y
open Go Go.Ry Go.RowKit
def tab_4 : Tab := ⟨(rs_1a ++ (rs_2a ++ (rs_2b ++ (rs_2f ++ rs_3a)))), fun _ _ => none, (ds_2a ++ (ds_2b ++ (ds_2c ++ (ds_2d ++ (ds_2e ++ (ds_2f ++ ds_2g))))))⟩
theorem tabk_4 : TabKnown tab_4 := ⟨List.forall_mem_append.2 ⟨rs_1a_k, List.forall_mem_append.2 ⟨rs_2a_k, List.forall_mem_append.2 ⟨rs_2b_k, List.forall_mem_append.2 ⟨rs_2f_k, rs_3a_k⟩⟩⟩⟩, fun _ _ _ h => (by cases h), List.forall_mem_append.2 ⟨ds_2a_k, List.forall_mem_append.2 ⟨ds_2b_k, List.forall_mem_append.2 ⟨ds_2c_k, List.forall_mem_append.2 ⟨ds_2d_k, List.forall_mem_append.2 ⟨ds_2e_k, List.forall_mem_append.2 ⟨ds_2f_k, ds_2g_k⟩⟩⟩⟩⟩⟩⟩
def rK : Row := ⟨3, [], .s (.one (.v (.bool true)))⟩
set_option maxRecDepth 1000000 in
theorem k_known : Known Tryz.prog rK.f rK.l rK.v := row_nowT tabk_4 (by kernel_rfl)
end Go.Proofs.YtjjibclfmknblabGreat.Y
