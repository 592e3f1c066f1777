/-
  Calls that are known: the table that their runs look into.
-/
import Derived.Test.YtjjibclfmknblabGreatMRyK2a
import Derived.Test.YtjjibclfmknblabGreatMRyK2b
import Derived.Test.YtjjibclfmknblabGreatMRyK2c
import Derived.Test.YtjjibclfmknblabGreatMRyK2d
import Derived.Test.YtjjibclfmknblabGreatMRyK2e
import Derived.Test.YtjjibclfmknblabGreatMRyK2f
import Derived.Test.YtjjibclfmknblabGreatMRyK2g
set_option linter.all false
namespace Go.Proofs.YtjjibclfmknblabGreat.Y
open Go Go.Ry Go.RowKit
def tab_3 : Tab := ⟨(rs_1a ++ (rs_2a ++ (rs_2b ++ rs_2f))), fun _ _ => none, (ds_2a ++ (ds_2b ++ (ds_2c ++ (ds_2d ++ (ds_2e ++ (ds_2f ++ ds_2g))))))⟩
theorem tabk_3 : TabKnown tab_3 := ⟨List.forall_mem_append.2 ⟨rs_1a_k, List.forall_mem_append.2 ⟨rs_2a_k, List.forall_mem_append.2 ⟨rs_2b_k, rs_2f_k⟩⟩⟩, fun _ _ _ h => (by cases h), List.forall_mem_append.2 ⟨ds_2a_k, List.forall_mem_append.2 ⟨ds_2b_k, List.forall_mem_append.2 ⟨ds_2c_k, List.forall_mem_append.2 ⟨ds_2d_k, List.forall_mem_append.2 ⟨ds_2e_k, List.forall_mem_append.2 ⟨ds_2f_k, ds_2g_k⟩⟩⟩⟩⟩⟩⟩

end Go.Proofs.YtjjibclfmknblabGreat.Y
