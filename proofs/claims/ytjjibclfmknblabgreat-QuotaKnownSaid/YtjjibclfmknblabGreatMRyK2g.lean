/-
  Calls that are known, each by one run.
-/
import Derived.Test.YtjjibclfmknblabGreatMRyK2
set_option linter.all false
namespace Go.Proofs.YtjjibclfmknblabGreat.Y
open Go Go.Ry Go.RowKit
def d_85 : DRow := ⟨11, [.agg [.sl 0 0 3 3, .sl 1 0 3 3, .v (.int .i64 2)], .one (.sl 2 0 4 4)], [([.v (.int .i64 1), .v (.int .i64 1), .v (.int .i64 0)], 3), ([.v (.int .i64 0), .v (.int .i64 1), .v (.int .i64 2)], 3), ([.v (.int .i64 2), .v (.int .i64 2), .v (.int .i64 1), .v (.int .i64 0)], 3)], .tup [.one (.slf 3 0 3 1), .one (.v (.int .i64 0))], [([.v (.int .i64 1), .v (.int .i64 2), .v (.int .i64 1)], 3)], [(0, (0, 0))], [(0, (0, 0)), (0, (0, 1)), (0, (1, 0))]⟩
set_option maxRecDepth 1000000 in
theorem dk_85 : Deep Tryz.prog (lets0 fun _ => 0) d_85 := deep_nowT tabk_2 (by kernel_rfl)
def d_86 : DRow := ⟨11, [.agg [.sl 0 0 2 2, .v (.slice none 0 0), .v (.int .i64 0)], .one (.v (.slice none 0 0))], [([.v (.int .i64 1000), .v (.int .i64 0)], 3)], .tup [.one (.slf 1 0 2 1), .one (.v (.int .i64 0))], [([.v (.int .i64 1000), .v (.int .i64 0)], 3)], [(0, (0, 0))], [(0, (0, 0))]⟩
set_option maxRecDepth 1000000 in
theorem dk_86 : Deep Tryz.prog (lets0 fun _ => 0) d_86 := deep_nowT tabk_2 (by kernel_rfl)
def ds_2g : List DRow := [d_85, d_86]
theorem ds_2g_k : ∀ d ∈ ds_2g, Deep Tryz.prog (lets0 fun _ => 0) d := List.forall_mem_cons.2 ⟨dk_85, List.forall_mem_cons.2 ⟨dk_86, (fun _ h => by cases h)⟩⟩
end Go.Proofs.YtjjibclfmknblabGreat.Y
