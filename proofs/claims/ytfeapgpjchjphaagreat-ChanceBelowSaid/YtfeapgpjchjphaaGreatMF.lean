/-
  The chapter's examples, as the statements check them: 'works' answers true.
-/
import Derived.Test.YtfeapgpjchjphaaGreatMC
import Derived.Test.YtfeapgpjchjphaaGreatMD
import Derived.Test.YtfeapgpjchjphaaGreatME
set_option linter.all false
namespace Go.Proofs.YtfeapgpjchjphaaGreat
open Go Go.Rx Go.RowKit
end Go.Proofs.YtfeapgpjchjphaaGreat
