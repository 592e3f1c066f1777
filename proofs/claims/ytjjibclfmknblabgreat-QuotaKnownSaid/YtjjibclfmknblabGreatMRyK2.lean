/-
  Calls that are known: the table that their runs look into.
-/
import Derived.Test.YtjjibclfmknblabGreatMRyK1a
set_option linter.all false
namespace Go.Proofs.YtjjibclfmknblabGreat.Y
open Go Go.Ry Go.RowKit
def tab_2 : Tab := ⟨rs_1a, fun _ _ => none, []⟩
theorem tabk_2 : TabKnown tab_2 := ⟨rs_1a_k, fun _ _ _ h => (by cases h), fun _ h => (by cases h)⟩

end Go.Proofs.YtjjibclfmknblabGreat.Y
