/-
  Calls that are known: the table that their runs look into.
-/
import Derived.Test.YtjjibclfmknblaaGreatMRyK1a
import Derived.Test.YtjjibclfmknblaaGreatMRyK1b
set_option linter.all false
namespace Go.Proofs.YtjjibclfmknblaaGreat.Y
open Go Go.Ry Go.RowKit
def tab_2 : Tab := ⟨[], fun _ _ => none, (ds_1a ++ ds_1b)⟩
theorem tabk_2 : TabKnown tab_2 := ⟨fun _ h => (by cases h), fun _ _ _ h => (by cases h), List.forall_mem_append.2 ⟨ds_1a_k, ds_1b_k⟩⟩

end Go.Proofs.YtjjibclfmknblaaGreat.Y
