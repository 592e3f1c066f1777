/-
  The law, by one run.
-/
import Derived.Test.YtjjibclfmknblaaGreatMRyK3a
set_option linter.all false
namespace Go.Proofs.YtjjibclfmknblaaGreat.Y
open Go Go.Ry Go.RowKit
def tab_4 : Tab := ⟨(rs_2a ++ (rs_2c ++ rs_3a)), fun _ _ => none, (ds_1a ++ (ds_1b ++ (ds_2a ++ (ds_2b ++ (ds_2c ++ (ds_2d ++ (ds_2e ++ ds_3a)))))))⟩
theorem tabk_4 : TabKnown tab_4 := ⟨List.forall_mem_append.2 ⟨rs_2a_k, List.forall_mem_append.2 ⟨rs_2c_k, rs_3a_k⟩⟩, fun _ _ _ h => (by cases h), List.forall_mem_append.2 ⟨ds_1a_k, List.forall_mem_append.2 ⟨ds_1b_k, List.forall_mem_append.2 ⟨ds_2a_k, List.forall_mem_append.2 ⟨ds_2b_k, List.forall_mem_append.2 ⟨ds_2c_k, List.forall_mem_append.2 ⟨ds_2d_k, List.forall_mem_append.2 ⟨ds_2e_k, ds_3a_k⟩⟩⟩⟩⟩⟩⟩⟩
def rK : Row := ⟨3, [], .s (.one (.v (.bool true)))⟩
set_option maxRecDepth 1000000 in
theorem k_known : Known Tryz.prog rK.f rK.l rK.v := row_nowT tabk_4 (by kernel_rfl)
end Go.Proofs.YtjjibclfmknblaaGreat.Y
