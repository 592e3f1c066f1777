/-
  Calls that are known, each by one run.
-/
import Derived.Test.YtmckghoaggopnadGreatMRyK2
set_option linter.all false
namespace Go.Proofs.YtmckghoaggopnadGreat.Y
open Go Go.Ry Go.RowKit
def d_70 : DRow := ⟨10, [.one (.sl 0 0 3 3), .one (.sl 1 0 1 1), .one (.v (.int .i64 0)), .one (.v (.int .i64 0))], [([.v (.int .i64 6), .v (.int .i64 6), .v (.int .i64 2)], 3), ([.v (.int .i64 0)], 3)], .tup [.one (.v (.slice none 0 0)), .one (.v (.int .i64 60))], [], [], [(0, (0, 0)), (0, (1, 0))]⟩
set_option maxRecDepth 1000000 in
theorem dk_70 : Deep Tryz.prog (lets0 fun _ => 0) d_70 := deep_nowT tabk_2 (by kernel_rfl)
def d_71 : DRow := ⟨10, [.one (.sl 0 0 3 3), .one (.sl 1 0 2 2), .one (.v (.int .i64 0)), .one (.v (.int .i64 0))], [([.v (.int .i64 6), .v (.int .i64 6), .v (.int .i64 2)], 3), ([.v (.int .i64 1), .v (.int .i64 1)], 3)], .tup [.one (.v (.slice none 0 0)), .one (.v (.int .i64 2))], [], [], [(0, (0, 0)), (0, (1, 0))]⟩
set_option maxRecDepth 1000000 in
theorem dk_71 : Deep Tryz.prog (lets0 fun _ => 0) d_71 := deep_nowT tabk_2 (by kernel_rfl)
def d_72 : DRow := ⟨10, [.one (.sl 0 0 3 3), .one (.sl 0 0 3 3), .one (.v (.int .i64 0)), .one (.v (.int .i64 1))], [([.v (.int .i64 6), .v (.int .i64 6), .v (.int .i64 2)], 3)], .tup [.one (.v (.slice none 0 0)), .one (.v (.int .i64 2))], [], [], [(0, (0, 0))]⟩
set_option maxRecDepth 1000000 in
theorem dk_72 : Deep Tryz.prog (lets0 fun _ => 0) d_72 := deep_nowT tabk_2 (by kernel_rfl)
def d_73 : DRow := ⟨10, [.one (.sl 0 0 2 2), .one (.sl 1 0 2 2), .one (.v (.int .i64 3)), .one (.v (.int .i64 14))], [([.v (.int .i64 2), .v (.int .i64 2)], 3), ([.v (.int .i64 3), .v (.int .i64 2)], 3)], .tup [.one (.v (.slice none 0 0)), .one (.v (.int .i64 8))], [], [], [(0, (0, 0)), (0, (1, 0))]⟩
set_option maxRecDepth 1000000 in
theorem dk_73 : Deep Tryz.prog (lets0 fun _ => 0) d_73 := deep_nowT tabk_2 (by kernel_rfl)
def d_74 : DRow := ⟨10, [.one (.sl 0 0 2 2), .one (.sl 1 0 2 2), .one (.v (.int .i64 3)), .one (.v (.int .i64 14))], [([.v (.int .i64 3), .v (.int .i64 2)], 3), ([.v (.int .i64 2), .v (.int .i64 2)], 3)], .tup [.one (.v (.slice none 0 0)), .one (.v (.int .i64 8))], [], [], [(0, (0, 0)), (0, (1, 0))]⟩
set_option maxRecDepth 1000000 in
theorem dk_74 : Deep Tryz.prog (lets0 fun _ => 0) d_74 := deep_nowT tabk_2 (by kernel_rfl)
def d_75 : DRow := ⟨11, [.one (.sl 0 0 2 2), .one (.v (.int .i64 4)), .one (.v (.int .i64 1)), .one (.v (.int .i64 132)), .one (.v (.int .i64 1))], [([.v (.int .i64 147), .v (.int .i64 253)], 3)], .tup [.one (.slf 1 0 2 1), .one (.v (.int .i64 0))], [([.v (.int .i64 0), .v (.int .i64 1)], 3)], [(0, (0, 0))], [(0, (0, 0))]⟩
set_option maxRecDepth 1000000 in
theorem dk_75 : Deep Tryz.prog (lets0 fun _ => 0) d_75 := deep_nowT tabk_2 (by kernel_rfl)
def d_76 : DRow := ⟨11, [.one (.sl 0 0 2 2), .one (.v (.int .i64 4)), .one (.v (.int .i64 14)), .one (.v (.int .i64 132)), .one (.v (.int .i64 1))], [([.v (.int .i64 147), .v (.int .i64 253)], 3)], .tup [.one (.v (.slice none 0 0)), .one (.v (.int .i64 0))], [], [], [(0, (0, 0))]⟩
set_option maxRecDepth 1000000 in
theorem dk_76 : Deep Tryz.prog (lets0 fun _ => 0) d_76 := deep_nowT tabk_2 (by kernel_rfl)
def d_77 : DRow := ⟨11, [.one (.sl 0 0 2 2), .one (.v (.int .i64 2)), .one (.v (.int .i64 1)), .one (.v (.int .i64 100)), .one (.v (.int .i64 1))], [([.v (.int .i64 1), .v (.int .i64 1)], 3)], .tup [.one (.v (.slice none 0 0)), .one (.v (.int .i64 4))], [], [], [(0, (0, 0))]⟩
set_option maxRecDepth 1000000 in
theorem dk_77 : Deep Tryz.prog (lets0 fun _ => 0) d_77 := deep_nowT tabk_2 (by kernel_rfl)
def d_78 : DRow := ⟨11, [.one (.sl 0 0 3 3), .one (.v (.int .i64 10)), .one (.v (.int .i64 1)), .one (.v (.int .i64 0)), .one (.v (.int .i64 1))], [([.v (.int .i64 6), .v (.int .i64 6), .v (.int .i64 2)], 3)], .tup [.one (.v (.slice none 0 0)), .one (.v (.int .i64 2))], [], [], [(0, (0, 0))]⟩
set_option maxRecDepth 1000000 in
theorem dk_78 : Deep Tryz.prog (lets0 fun _ => 0) d_78 := deep_nowT tabk_2 (by kernel_rfl)
def d_79 : DRow := ⟨11, [.one (.sl 0 0 3 3), .one (.v (.int .i64 10)), .one (.v (.int .i64 1)), .one (.v (.int .i64 1000000001)), .one (.v (.int .i64 1))], [([.v (.int .i64 6), .v (.int .i64 6), .v (.int .i64 2)], 3)], .tup [.one (.v (.slice none 0 0)), .one (.v (.int .i64 2))], [], [], [(0, (0, 0))]⟩
set_option maxRecDepth 1000000 in
theorem dk_79 : Deep Tryz.prog (lets0 fun _ => 0) d_79 := deep_nowT tabk_2 (by kernel_rfl)
def ds_2e : List DRow := [d_70, d_71, d_72, d_73, d_74, d_75, d_76, d_77, d_78, d_79]
theorem ds_2e_k : ∀ d ∈ ds_2e, Deep Tryz.prog (lets0 fun _ => 0) d := List.forall_mem_cons.2 ⟨dk_70, List.forall_mem_cons.2 ⟨dk_71, List.forall_mem_cons.2 ⟨dk_72, List.forall_mem_cons.2 ⟨dk_73, List.forall_mem_cons.2 ⟨dk_74, List.forall_mem_cons.2 ⟨dk_75, List.forall_mem_cons.2 ⟨dk_76, List.forall_mem_cons.2 ⟨dk_77, List.forall_mem_cons.2 ⟨dk_78, List.forall_mem_cons.2 ⟨dk_79, (fun _ h => by cases h)⟩⟩⟩⟩⟩⟩⟩⟩⟩⟩
end Go.Proofs.YtmckghoaggopnadGreat.Y
