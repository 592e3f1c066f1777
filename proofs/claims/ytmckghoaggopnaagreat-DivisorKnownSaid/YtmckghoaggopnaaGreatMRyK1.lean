/-
  Calls that are known: the table that their runs look into.
-/
import Derived.Test.YtmckghoaggopnaaGreatMRyF2
set_option linter.all false
namespace Go.Proofs.YtmckghoaggopnaaGreat.Y
open Go Go.Ry Go.RowKit
def tab_1 : Tab := ⟨[], famC, []⟩
theorem tabk_1 : TabKnown tab_1 := ⟨fun _ h => (by cases h), famC_known, fun _ h => (by cases h)⟩

end Go.Proofs.YtmckghoaggopnaaGreat.Y
