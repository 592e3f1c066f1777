/-
  Calls that are known: the table that their runs look into.
-/
import Derived.Test.YtjjibclfmknblabGreatMTI
set_option linter.all false
namespace Go.Proofs.YtjjibclfmknblabGreat.Y
open Go Go.Ry Go.RowKit
def tab_1 : Tab := ⟨[], fun _ _ => none, []⟩
theorem tabk_1 : TabKnown tab_1 := ⟨fun _ h => (by cases h), fun _ _ _ h => (by cases h), fun _ h => (by cases h)⟩

end Go.Proofs.YtjjibclfmknblabGreat.Y
