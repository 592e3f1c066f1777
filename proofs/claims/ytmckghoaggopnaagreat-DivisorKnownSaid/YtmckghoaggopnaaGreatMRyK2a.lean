/-
  Calls that are known, each by one run.
-/
import Derived.Test.YtmckghoaggopnaaGreatMRyK2
set_option linter.all false
namespace Go.Proofs.YtmckghoaggopnaaGreat.Y
open Go Go.Ry Go.RowKit
def d_38 : DRow := ⟨11, [.one (.sl 0 0 3 3), .one (.v (.int .i64 5)), .one (.v (.int .i64 15)), .one (.v (.slice none 0 0)), .agg [.sl 1 0 3 3, .v (.slice none 0 0), .v (.int .i64 0)]], [([.v (.int .i64 9), .v (.int .i64 5), .v (.int .i64 3)], 3), ([.v (.int .i64 3), .v (.int .i64 1), .v (.int .i64 1)], 3)], .s (.one (.v (.bool true))), [], [], [(0, (0, 0)), (0, (4, 0))]⟩
set_option maxRecDepth 1000000 in
theorem dk_38 : Deep Tryz.prog (lets0 fun _ => 0) d_38 := deep_nowT tabk_2 (by kernel_rfl)
def d_39 : DRow := ⟨11, [.one (.sl 0 0 3 3), .one (.v (.int .i64 5)), .one (.v (.int .i64 11)), .one (.v (.slice none 0 0)), .agg [.sl 1 0 3 3, .v (.slice none 0 0), .v (.int .i64 0)]], [([.v (.int .i64 9), .v (.int .i64 5), .v (.int .i64 3)], 3), ([.v (.int .i64 2), .v (.int .i64 2), .v (.int .i64 1)], 3)], .s (.one (.v (.bool true))), [], [], [(0, (0, 0)), (0, (4, 0))]⟩
set_option maxRecDepth 1000000 in
theorem dk_39 : Deep Tryz.prog (lets0 fun _ => 0) d_39 := deep_nowT tabk_2 (by kernel_rfl)
def d_40 : DRow := ⟨11, [.one (.sl 0 0 2 2), .one (.v (.int .i64 3)), .one (.v (.int .i64 14)), .one (.v (.slice none 0 0)), .agg [.sl 1 0 2 2, .sl 2 0 2 2, .v (.int .i64 1)]], [([.v (.int .i64 6), .v (.int .i64 6)], 3), ([.v (.int .i64 1), .v (.int .i64 1)], 3), ([.v (.int .i64 0), .v (.int .i64 1)], 3)], .s (.one (.v (.bool true))), [], [], [(0, (0, 0)), (0, (4, 0)), (0, (4, 1))]⟩
set_option maxRecDepth 1000000 in
theorem dk_40 : Deep Tryz.prog (lets0 fun _ => 0) d_40 := deep_nowT tabk_2 (by kernel_rfl)
def d_41 : DRow := ⟨11, [.one (.sl 0 0 3 3), .one (.v (.int .i64 2)), .one (.v (.int .i64 11)), .one (.v (.slice none 0 0)), .agg [.sl 1 0 3 3, .v (.slice none 0 0), .v (.int .i64 0)]], [([.v (.int .i64 9), .v (.int .i64 5), .v (.int .i64 3)], 3), ([.v (.int .i64 1), .v (.int .i64 1), .v (.int .i64 0)], 3)], .s (.one (.v (.bool true))), [], [], [(0, (0, 0)), (0, (4, 0))]⟩
set_option maxRecDepth 1000000 in
theorem dk_41 : Deep Tryz.prog (lets0 fun _ => 0) d_41 := deep_nowT tabk_2 (by kernel_rfl)
def ds_2a : List DRow := [d_38, d_39, d_40, d_41]
theorem ds_2a_k : ∀ d ∈ ds_2a, Deep Tryz.prog (lets0 fun _ => 0) d := List.forall_mem_cons.2 ⟨dk_38, List.forall_mem_cons.2 ⟨dk_39, List.forall_mem_cons.2 ⟨dk_40, List.forall_mem_cons.2 ⟨dk_41, (fun _ h => by cases h)⟩⟩⟩⟩
end Go.Proofs.YtmckghoaggopnaaGreat.Y
