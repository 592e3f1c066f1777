/-
  Calls that are known, each by one run.
-/
import Derived.Test.YtmckghoaggopnaaGreatMRyK2
set_option linter.all false
namespace Go.Proofs.YtmckghoaggopnaaGreat.Y
open Go Go.Ry Go.RowKit
def d_50 : DRow := ⟨10, [.one (.sl 0 0 2 2), .one (.v (.int .i64 1001)), .one (.v (.int .i64 11)), .one (.sl 1 0 1 1)], [([.v (.int .i64 0), .v (.int .i64 1)], 3), ([.v (.int .i64 (-1))], 3)], .tup [.one (.v (.slice none 0 0)), .one (.v (.int .i64 2))], [], [], [(0, (0, 0)), (0, (3, 0))]⟩
set_option maxRecDepth 1000000 in
theorem dk_50 : Deep Tryz.prog (lets0 fun _ => 0) d_50 := deep_nowT tabk_2 (by kernel_rfl)
def d_51 : DRow := ⟨10, [.one (.sl 0 0 2 2), .one (.v (.int .i64 1)), .one (.v (.int .i64 10)), .one (.sl 1 0 1 1)], [([.v (.int .i64 0), .v (.int .i64 1)], 3), ([.v (.int .i64 (-1))], 3)], .tup [.one (.v (.slice none 0 0)), .one (.v (.int .i64 2))], [], [], [(0, (0, 0)), (0, (3, 0))]⟩
set_option maxRecDepth 1000000 in
theorem dk_51 : Deep Tryz.prog (lets0 fun _ => 0) d_51 := deep_nowT tabk_2 (by kernel_rfl)
def d_52 : DRow := ⟨10, [.one (.sl 0 0 2 2), .one (.v (.int .i64 1)), .one (.v (.int .i64 16)), .one (.sl 1 0 1 1)], [([.v (.int .i64 0), .v (.int .i64 1)], 3), ([.v (.int .i64 (-1))], 3)], .tup [.one (.v (.slice none 0 0)), .one (.v (.int .i64 2))], [], [], [(0, (0, 0)), (0, (3, 0))]⟩
set_option maxRecDepth 1000000 in
theorem dk_52 : Deep Tryz.prog (lets0 fun _ => 0) d_52 := deep_nowT tabk_2 (by kernel_rfl)
def d_53 : DRow := ⟨10, [.one (.sl 0 0 2 2), .one (.v (.int .i64 1)), .one (.v (.int .i64 1)), .one (.sl 1 0 1 1)], [([.v (.int .i64 0), .v (.int .i64 1)], 3), ([.v (.int .i64 (-1))], 3)], .tup [.one (.v (.slice none 0 0)), .one (.v (.int .i64 2))], [], [], [(0, (0, 0)), (0, (3, 0))]⟩
set_option maxRecDepth 1000000 in
theorem dk_53 : Deep Tryz.prog (lets0 fun _ => 0) d_53 := deep_nowT tabk_2 (by kernel_rfl)
def ds_2d : List DRow := [d_50, d_51, d_52, d_53]
theorem ds_2d_k : ∀ d ∈ ds_2d, Deep Tryz.prog (lets0 fun _ => 0) d := List.forall_mem_cons.2 ⟨dk_50, List.forall_mem_cons.2 ⟨dk_51, List.forall_mem_cons.2 ⟨dk_52, List.forall_mem_cons.2 ⟨dk_53, (fun _ h => by cases h)⟩⟩⟩⟩
end Go.Proofs.YtmckghoaggopnaaGreat.Y
