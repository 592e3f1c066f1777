/-
  Calls that are known: the table that their runs look into.
-/
import Derived.Test.YtjjibclfmknblaaGreatMRyK2a
import Derived.Test.YtjjibclfmknblaaGreatMRyK2b
import Derived.Test.YtjjibclfmknblaaGreatMRyK2c
import Derived.Test.YtjjibclfmknblaaGreatMRyK2d
import Derived.Test.YtjjibclfmknblaaGreatMRyK2e
set_option linter.all false
namespace Go.Proofs.YtjjibclfmknblaaGreat.Y
open Go Go.Ry Go.RowKit
def tab_3 : Tab := ⟨(rs_2a ++ rs_2c), fun _ _ => none, (ds_1a ++ (ds_1b ++ (ds_2a ++ (ds_2b ++ (ds_2c ++ (ds_2d ++ ds_2e))))))⟩
theorem tabk_3 : TabKnown tab_3 := ⟨List.forall_mem_append.2 ⟨rs_2a_k, rs_2c_k⟩, fun _ _ _ h => (by cases h), List.forall_mem_append.2 ⟨ds_1a_k, List.forall_mem_append.2 ⟨ds_1b_k, List.forall_mem_append.2 ⟨ds_2a_k, List.forall_mem_append.2 ⟨ds_2b_k, List.forall_mem_append.2 ⟨ds_2c_k, List.forall_mem_append.2 ⟨ds_2d_k, ds_2e_k⟩⟩⟩⟩⟩⟩⟩

end Go.Proofs.YtjjibclfmknblaaGreat.Y
