/-
  Calls that are known: roots, texts.
-/
import Derived.Test.YtfeapgpjchjphaaGreatMB
set_option linter.all false
namespace Go.Proofs.YtfeapgpjchjphaaGreat
open Go Go.Rx Go.RowKit
end Go.Proofs.YtfeapgpjchjphaaGreat
