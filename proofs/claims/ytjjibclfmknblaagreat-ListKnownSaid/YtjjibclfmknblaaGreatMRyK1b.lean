/-
  Calls that are known, each by one run.
-/
import Derived.Test.YtjjibclfmknblaaGreatMRyK1
set_option linter.all false
namespace Go.Proofs.YtjjibclfmknblaaGreat.Y
open Go Go.Ry Go.RowKit
def d_13 : DRow := ⟨37, [.one (.slf 0 0 2 1), .one (.v (.int .i64 4)), .one (.v (.int .i64 14)), .one (.v (.slice none 0 0))], [([.v (.int .i64 5), .v (.int .i64 5)], 3)], .tup [.agg [.slf 1 0 2 1, .v (.slice none 0 0), .v (.int .i64 0)], .one (.v (.int .i64 0))], [([.v (.int .i64 2), .v (.int .i64 2)], 3)], [(0, (0, 0))], [(0, (0, 0))]⟩
set_option maxRecDepth 1000000 in
theorem dk_13 : Deep Tryz.prog (lets0 fun _ => 0) d_13 := deep_nowT tabk_1 (by kernel_rfl)
def ds_1b : List DRow := [d_13]
theorem ds_1b_k : ∀ d ∈ ds_1b, Deep Tryz.prog (lets0 fun _ => 0) d := List.forall_mem_cons.2 ⟨dk_13, (fun _ h => by cases h)⟩
end Go.Proofs.YtjjibclfmknblaaGreat.Y
