/-
  Calls that are known, each by one run.
-/
import Derived.Test.YtmckghoaggopnaaGreatMRyK2
set_option linter.all false
namespace Go.Proofs.YtmckghoaggopnaaGreat.Y
open Go Go.Ry Go.RowKit
def d_46 : DRow := ⟨11, [.one (.sl 0 0 4 4), .one (.v (.int .i64 6)), .one (.v (.int .i64 15)), .one (.v (.slice none 0 0)), .agg [.sl 1 0 4 4, .sl 2 0 4 4, .v (.int .i64 2)]], [([.v (.int .i64 1), .v (.int .i64 1), .v (.int .i64 1), .v (.int .i64 1)], 3), ([.v (.int .i64 1), .v (.int .i64 1), .v (.int .i64 1), .v (.int .i64 1)], 3), ([.v (.int .i64 0), .v (.int .i64 1), .v (.int .i64 2), .v (.int .i64 3)], 3)], .s (.one (.v (.bool true))), [], [], [(0, (0, 0)), (0, (4, 0)), (0, (4, 1))]⟩
set_option maxRecDepth 1000000 in
theorem dk_46 : Deep Tryz.prog (lets0 fun _ => 0) d_46 := deep_nowT tabk_2 (by kernel_rfl)
def d_47 : DRow := ⟨10, [.one (.sl 0 0 3 3), .one (.v (.int .i64 3)), .one (.v (.int .i64 14)), .one (.v (.slice none 0 0))], [([.v (.int .i64 9), .v (.int .i64 5), .v (.int .i64 3)], 3)], .tup [.one (.slf 1 0 2 1), .one (.v (.int .i64 0))], [([.v (.int .i64 0), .v (.int .i64 1)], 3)], [(0, (0, 0))], [(0, (0, 0))]⟩
set_option maxRecDepth 1000000 in
theorem dk_47 : Deep Tryz.prog (lets0 fun _ => 0) d_47 := deep_nowT tabk_2 (by kernel_rfl)
def d_48 : DRow := ⟨10, [.one (.sl 0 0 3 3), .one (.v (.int .i64 4)), .one (.v (.int .i64 14)), .one (.v (.slice none 0 0))], [([.v (.int .i64 9), .v (.int .i64 5), .v (.int .i64 3)], 3)], .tup [.one (.slf 1 0 4 1), .one (.v (.int .i64 0))], [([.v (.int .i64 0), .v (.int .i64 1), .v (.int .i64 0), .v (.int .i64 2)], 3)], [(0, (0, 0))], [(0, (0, 0))]⟩
set_option maxRecDepth 1000000 in
theorem dk_48 : Deep Tryz.prog (lets0 fun _ => 0) d_48 := deep_nowT tabk_2 (by kernel_rfl)
def d_49 : DRow := ⟨10, [.one (.sl 0 0 2 2), .one (.v (.int .i64 0)), .one (.v (.int .i64 11)), .one (.sl 1 0 1 1)], [([.v (.int .i64 0), .v (.int .i64 1)], 3), ([.v (.int .i64 (-1))], 3)], .tup [.one (.v (.slice none 0 0)), .one (.v (.int .i64 2))], [], [], [(0, (0, 0)), (0, (3, 0))]⟩
set_option maxRecDepth 1000000 in
theorem dk_49 : Deep Tryz.prog (lets0 fun _ => 0) d_49 := deep_nowT tabk_2 (by kernel_rfl)
def ds_2c : List DRow := [d_46, d_47, d_48, d_49]
theorem ds_2c_k : ∀ d ∈ ds_2c, Deep Tryz.prog (lets0 fun _ => 0) d := List.forall_mem_cons.2 ⟨dk_46, List.forall_mem_cons.2 ⟨dk_47, List.forall_mem_cons.2 ⟨dk_48, List.forall_mem_cons.2 ⟨dk_49, (fun _ h => by cases h)⟩⟩⟩⟩
end Go.Proofs.YtmckghoaggopnaaGreat.Y
