/-
  Contracts of the laws: pairs.
-/
import Derived.Test.YtaafimabgcnbaabGreatDoorMLEa
set_option linter.all false
namespace Go.Proofs.YtaafimabgcnbaabGreatDoor
open Go Go.RowKit Go.Big
attribute [local instance] noAv
end Go.Proofs.YtaafimabgcnbaabGreatDoor
