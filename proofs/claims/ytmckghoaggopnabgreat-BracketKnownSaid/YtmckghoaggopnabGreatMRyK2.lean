/-
  Calls that are known: the table that their runs look into.
-/
import Derived.Test.YtmckghoaggopnabGreatMRyK1a
import Derived.Test.YtmckghoaggopnabGreatMRyK1b
import Derived.Test.YtmckghoaggopnabGreatMRyK1c
import Derived.Test.YtmckghoaggopnabGreatMRyK1d
set_option linter.all false
namespace Go.Proofs.YtmckghoaggopnabGreat.Y
open Go Go.Ry Go.RowKit
def tab_2 : Tab := ⟨(rs_1a ++ (rs_1b ++ (rs_1c ++ rs_1d))), fun _ _ => none, []⟩
theorem tabk_2 : TabKnown tab_2 := ⟨List.forall_mem_append.2 ⟨rs_1a_k, List.forall_mem_append.2 ⟨rs_1b_k, List.forall_mem_append.2 ⟨rs_1c_k, rs_1d_k⟩⟩⟩, fun _ _ _ h => (by cases h), fun _ h => (by cases h)⟩

end Go.Proofs.YtmckghoaggopnabGreat.Y
