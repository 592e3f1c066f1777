/-
  Calls that are known: powers.
-/
import Derived.Test.YtfeapgpjchjphaaGreatMB
set_option linter.all false
namespace Go.Proofs.YtfeapgpjchjphaaGreat
open Go Go.Rx Go.RowKit
end Go.Proofs.YtfeapgpjchjphaaGreat
