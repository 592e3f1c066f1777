/-
  Calls that are known, each by one run.
-/
import Derived.Test.YtmckghoaggopnaaGreatMRyK2
set_option linter.all false
namespace Go.Proofs.YtmckghoaggopnaaGreat.Y
open Go Go.Ry Go.RowKit
def d_42 : DRow := ⟨11, [.one (.sl 0 0 3 3), .one (.v (.int .i64 4)), .one (.v (.int .i64 14)), .one (.sl 1 0 3 3), .agg [.sl 2 0 3 3, .v (.slice none 0 0), .v (.int .i64 0)]], [([.v (.int .i64 9), .v (.int .i64 5), .v (.int .i64 3)], 3), ([.v (.int .i64 0), .v (.int .i64 0), .v (.int .i64 2)], 3), ([.v (.int .i64 1), .v (.int .i64 1), .v (.int .i64 2)], 3)], .s (.one (.v (.bool true))), [], [], [(0, (0, 0)), (0, (3, 0)), (0, (4, 0))]⟩
set_option maxRecDepth 1000000 in
theorem dk_42 : Deep Tryz.prog (lets0 fun _ => 0) d_42 := deep_nowT tabk_2 (by kernel_rfl)
def d_43 : DRow := ⟨11, [.one (.sl 0 0 2 2), .one (.v (.int .i64 2)), .one (.v (.int .i64 11)), .one (.sl 1 0 2 2), .agg [.sl 2 0 2 2, .v (.slice none 0 0), .v (.int .i64 0)]], [([.v (.int .i64 0), .v (.int .i64 1)], 3), ([.v (.int .i64 1), .v (.int .i64 0)], 3), ([.v (.int .i64 1), .v (.int .i64 1)], 3)], .s (.one (.v (.bool true))), [], [], [(0, (0, 0)), (0, (3, 0)), (0, (4, 0))]⟩
set_option maxRecDepth 1000000 in
theorem dk_43 : Deep Tryz.prog (lets0 fun _ => 0) d_43 := deep_nowT tabk_2 (by kernel_rfl)
def d_44 : DRow := ⟨11, [.one (.sl 0 0 2 2), .one (.v (.int .i64 1000)), .one (.v (.int .i64 12)), .one (.v (.slice none 0 0)), .agg [.sl 1 0 2 2, .v (.slice none 0 0), .v (.int .i64 0)]], [([.v (.int .i64 0), .v (.int .i64 1)], 3), ([.v (.int .i64 0), .v (.int .i64 1000)], 3)], .s (.one (.v (.bool true))), [], [], [(0, (0, 0)), (0, (4, 0))]⟩
set_option maxRecDepth 1000000 in
theorem dk_44 : Deep Tryz.prog (lets0 fun _ => 0) d_44 := deep_nowT tabk_2 (by kernel_rfl)
def d_45 : DRow := ⟨11, [.one (.sl 0 0 3 3), .one (.v (.int .i64 1)), .one (.v (.int .i64 13)), .one (.v (.slice none 0 0)), .agg [.sl 1 0 3 3, .sl 2 0 2 2, .v (.int .i64 1)]], [([.v (.int .i64 5), .v (.int .i64 5), .v (.int .i64 1)], 3), ([.v (.int .i64 0), .v (.int .i64 0), .v (.int .i64 0)], 3), ([.v (.int .i64 0), .v (.int .i64 1)], 3)], .s (.one (.v (.bool true))), [], [], [(0, (0, 0)), (0, (4, 0)), (0, (4, 1))]⟩
set_option maxRecDepth 1000000 in
theorem dk_45 : Deep Tryz.prog (lets0 fun _ => 0) d_45 := deep_nowT tabk_2 (by kernel_rfl)
def ds_2b : List DRow := [d_42, d_43, d_44, d_45]
theorem ds_2b_k : ∀ d ∈ ds_2b, Deep Tryz.prog (lets0 fun _ => 0) d := List.forall_mem_cons.2 ⟨dk_42, List.forall_mem_cons.2 ⟨dk_43, List.forall_mem_cons.2 ⟨dk_44, List.forall_mem_cons.2 ⟨dk_45, (fun _ h => by cases h)⟩⟩⟩⟩
end Go.Proofs.YtmckghoaggopnaaGreat.Y
