/-
  Calls that are known, each by one run.
-/
import Derived.Test.YtmckghoaggopnadGreatMRyK2
set_option linter.all false
namespace Go.Proofs.YtmckghoaggopnadGreat.Y
open Go Go.Ry Go.RowKit
def d_80 : DRow := ⟨11, [.one (.sl 0 0 3 3), .one (.v (.int .i64 10)), .one (.v (.int .i64 1)), .one (.v (.int .i64 1)), .one (.v (.int .i64 0))], [([.v (.int .i64 6), .v (.int .i64 6), .v (.int .i64 2)], 3)], .tup [.one (.v (.slice none 0 0)), .one (.v (.int .i64 2))], [], [], [(0, (0, 0))]⟩
set_option maxRecDepth 1000000 in
theorem dk_80 : Deep Tryz.prog (lets0 fun _ => 0) d_80 := deep_nowT tabk_2 (by kernel_rfl)
def d_81 : DRow := ⟨11, [.one (.sl 0 0 3 3), .one (.v (.int .i64 10)), .one (.v (.int .i64 1)), .one (.v (.int .i64 1)), .one (.v (.int .i64 991))], [([.v (.int .i64 6), .v (.int .i64 6), .v (.int .i64 2)], 3)], .tup [.one (.v (.slice none 0 0)), .one (.v (.int .i64 2))], [], [], [(0, (0, 0))]⟩
set_option maxRecDepth 1000000 in
theorem dk_81 : Deep Tryz.prog (lets0 fun _ => 0) d_81 := deep_nowT tabk_2 (by kernel_rfl)
def d_82 : DRow := ⟨11, [.one (.sl 0 0 60 60), .one (.v (.int .i64 60)), .one (.v (.int .i64 1)), .one (.v (.int .i64 1)), .one (.v (.int .i64 1))], [([.v (.int .i64 1), .v (.int .i64 1), .v (.int .i64 1), .v (.int .i64 1), .v (.int .i64 1), .v (.int .i64 1), .v (.int .i64 1), .v (.int .i64 1), .v (.int .i64 1), .v (.int .i64 1), .v (.int .i64 1), .v (.int .i64 1), .v (.int .i64 1), .v (.int .i64 1), .v (.int .i64 1), .v (.int .i64 1), .v (.int .i64 1), .v (.int .i64 1), .v (.int .i64 1), .v (.int .i64 1), .v (.int .i64 1), .v (.int .i64 1), .v (.int .i64 1), .v (.int .i64 1), .v (.int .i64 1), .v (.int .i64 1), .v (.int .i64 1), .v (.int .i64 1), .v (.int .i64 1), .v (.int .i64 1), .v (.int .i64 1), .v (.int .i64 1), .v (.int .i64 1), .v (.int .i64 1), .v (.int .i64 1), .v (.int .i64 1), .v (.int .i64 1), .v (.int .i64 1), .v (.int .i64 1), .v (.int .i64 1), .v (.int .i64 1), .v (.int .i64 1), .v (.int .i64 1), .v (.int .i64 1), .v (.int .i64 1), .v (.int .i64 1), .v (.int .i64 1), .v (.int .i64 1), .v (.int .i64 1), .v (.int .i64 1), .v (.int .i64 1), .v (.int .i64 1), .v (.int .i64 1), .v (.int .i64 1), .v (.int .i64 1), .v (.int .i64 1), .v (.int .i64 1), .v (.int .i64 1), .v (.int .i64 1), .v (.int .i64 1)], 3)], .tup [.one (.v (.slice none 0 0)), .one (.v (.int .i64 2))], [], [], [(0, (0, 0))]⟩
set_option maxRecDepth 1000000 in
theorem dk_82 : Deep Tryz.prog (lets0 fun _ => 0) d_82 := deep_nowT tabk_2 (by kernel_rfl)
def d_83 : DRow := ⟨11, [.one (.sl 0 0 2 2), .one (.v (.int .i64 3)), .one (.v (.int .i64 14)), .one (.v (.int .i64 0)), .one (.v (.int .i64 0))], [([.v (.int .i64 2), .v (.int .i64 2)], 3)], .tup [.one (.v (.slice none 0 0)), .one (.v (.int .i64 8))], [], [], [(0, (0, 0))]⟩
set_option maxRecDepth 1000000 in
theorem dk_83 : Deep Tryz.prog (lets0 fun _ => 0) d_83 := deep_nowT tabk_2 (by kernel_rfl)
def d_84 : DRow := ⟨11, [.one (.sl 0 0 2 2), .one (.v (.int .i64 4)), .one (.v (.int .i64 14)), .one (.v (.int .i64 4)), .one (.v (.int .i64 1))], [([.v (.int .i64 3), .v (.int .i64 1)], 3)], .tup [.one (.v (.slice none 0 0)), .one (.v (.int .i64 4))], [], [], [(0, (0, 0))]⟩
set_option maxRecDepth 1000000 in
theorem dk_84 : Deep Tryz.prog (lets0 fun _ => 0) d_84 := deep_nowT tabk_2 (by kernel_rfl)
def ds_2f : List DRow := [d_80, d_81, d_82, d_83, d_84]
theorem ds_2f_k : ∀ d ∈ ds_2f, Deep Tryz.prog (lets0 fun _ => 0) d := List.forall_mem_cons.2 ⟨dk_80, List.forall_mem_cons.2 ⟨dk_81, List.forall_mem_cons.2 ⟨dk_82, List.forall_mem_cons.2 ⟨dk_83, List.forall_mem_cons.2 ⟨dk_84, (fun _ h => by cases h)⟩⟩⟩⟩⟩
end Go.Proofs.YtmckghoaggopnadGreat.Y
