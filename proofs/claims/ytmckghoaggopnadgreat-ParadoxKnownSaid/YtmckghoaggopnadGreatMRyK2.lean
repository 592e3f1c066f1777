/-
  Calls that are known: the table that their runs look into.
-/
import Derived.Test.YtmckghoaggopnadGreatMRyK1a
import Derived.Test.YtmckghoaggopnadGreatMRyK1b
import Derived.Test.YtmckghoaggopnadGreatMRyK1c
set_option linter.all false
namespace Go.Proofs.YtmckghoaggopnadGreat.Y
open Go Go.Ry Go.RowKit
def tab_2 : Tab := ⟨[], fun _ _ => none, (ds_1a ++ (ds_1b ++ ds_1c))⟩
theorem tabk_2 : TabKnown tab_2 := ⟨fun _ h => (by cases h), fun _ _ _ h => (by cases h), List.forall_mem_append.2 ⟨ds_1a_k, List.forall_mem_append.2 ⟨ds_1b_k, ds_1c_k⟩⟩⟩

end Go.Proofs.YtmckghoaggopnadGreat.Y
