/-
  Calls that are known, each by one run.
-/
import Derived.Test.YtmckghoaggopnadGreatMRyK2
set_option linter.all false
namespace Go.Proofs.YtmckghoaggopnadGreat.Y
open Go Go.Ry Go.RowKit
def d_30 : DRow := ⟨6, [.one (.sl 0 0 3 3), .one (.v (.int .i64 10)), .one (.v (.int .i64 1))], [([.v (.int .i64 6), .v (.int .i64 6), .v (.int .i64 2)], 3)], .tup [.one (.sl 1 0 3 3), .one (.v (.int .i64 0))], [([.v (.int .i64 4), .v (.int .i64 4), .v (.int .i64 2)], 3)], [(0, (0, 0))], [(0, (0, 0))]⟩
set_option maxRecDepth 1000000 in
theorem dk_30 : Deep Tryz.prog (lets0 fun _ => 0) d_30 := deep_nowT tabk_2 (by kernel_rfl)
def d_31 : DRow := ⟨6, [.one (.sl 0 0 3 3), .one (.v (.int .i64 11)), .one (.v (.int .i64 1))], [([.v (.int .i64 6), .v (.int .i64 6), .v (.int .i64 2)], 3)], .tup [.one (.sl 1 0 3 3), .one (.v (.int .i64 0))], [([.v (.int .i64 5), .v (.int .i64 5), .v (.int .i64 1)], 3)], [(0, (0, 0))], [(0, (0, 0))]⟩
set_option maxRecDepth 1000000 in
theorem dk_31 : Deep Tryz.prog (lets0 fun _ => 0) d_31 := deep_nowT tabk_2 (by kernel_rfl)
def d_32 : DRow := ⟨6, [.one (.sl 0 0 2 2), .one (.v (.int .i64 3)), .one (.v (.int .i64 14))], [([.v (.int .i64 2), .v (.int .i64 2)], 3)], .tup [.one (.v (.slice none 0 0)), .one (.v (.int .i64 8))], [], [], [(0, (0, 0))]⟩
set_option maxRecDepth 1000000 in
theorem dk_32 : Deep Tryz.prog (lets0 fun _ => 0) d_32 := deep_nowT tabk_2 (by kernel_rfl)
def d_33 : DRow := ⟨6, [.one (.sl 0 0 2 2), .one (.v (.int .i64 1)), .one (.v (.int .i64 1))], [([.v (.int .i64 0), .v (.int .i64 5)], 3)], .tup [.one (.sl 1 0 2 2), .one (.v (.int .i64 0))], [([.v (.int .i64 0), .v (.int .i64 1)], 3)], [(0, (0, 0))], [(0, (0, 0))]⟩
set_option maxRecDepth 1000000 in
theorem dk_33 : Deep Tryz.prog (lets0 fun _ => 0) d_33 := deep_nowT tabk_2 (by kernel_rfl)
def d_34 : DRow := ⟨6, [.one (.sl 0 0 2 2), .one (.v (.int .i64 1)), .one (.v (.int .i64 2))], [([.v (.int .i64 0), .v (.int .i64 5)], 3)], .tup [.one (.sl 1 0 2 2), .one (.v (.int .i64 0))], [([.v (.int .i64 0), .v (.int .i64 1)], 3)], [(0, (0, 0))], [(0, (0, 0))]⟩
set_option maxRecDepth 1000000 in
theorem dk_34 : Deep Tryz.prog (lets0 fun _ => 0) d_34 := deep_nowT tabk_2 (by kernel_rfl)
def d_35 : DRow := ⟨6, [.one (.sl 0 0 2 2), .one (.v (.int .i64 1)), .one (.v (.int .i64 3))], [([.v (.int .i64 0), .v (.int .i64 5)], 3)], .tup [.one (.v (.slice none 0 0)), .one (.v (.int .i64 9))], [], [], [(0, (0, 0))]⟩
set_option maxRecDepth 1000000 in
theorem dk_35 : Deep Tryz.prog (lets0 fun _ => 0) d_35 := deep_nowT tabk_2 (by kernel_rfl)
def d_36 : DRow := ⟨6, [.one (.sl 0 0 2 2), .one (.v (.int .i64 1)), .one (.v (.int .i64 4))], [([.v (.int .i64 0), .v (.int .i64 5)], 3)], .tup [.one (.v (.slice none 0 0)), .one (.v (.int .i64 9))], [], [], [(0, (0, 0))]⟩
set_option maxRecDepth 1000000 in
theorem dk_36 : Deep Tryz.prog (lets0 fun _ => 0) d_36 := deep_nowT tabk_2 (by kernel_rfl)
def d_37 : DRow := ⟨6, [.one (.sl 0 0 2 2), .one (.v (.int .i64 1)), .one (.v (.int .i64 11))], [([.v (.int .i64 0), .v (.int .i64 5)], 3)], .tup [.one (.slf 1 0 2 1), .one (.v (.int .i64 0))], [([.v (.int .i64 0), .v (.int .i64 1)], 3)], [(0, (0, 0))], [(0, (0, 0))]⟩
set_option maxRecDepth 1000000 in
theorem dk_37 : Deep Tryz.prog (lets0 fun _ => 0) d_37 := deep_nowT tabk_2 (by kernel_rfl)
def d_38 : DRow := ⟨6, [.one (.sl 0 0 2 2), .one (.v (.int .i64 1)), .one (.v (.int .i64 12))], [([.v (.int .i64 0), .v (.int .i64 5)], 3)], .tup [.one (.slf 1 0 2 1), .one (.v (.int .i64 0))], [([.v (.int .i64 0), .v (.int .i64 1)], 3)], [(0, (0, 0))], [(0, (0, 0))]⟩
set_option maxRecDepth 1000000 in
theorem dk_38 : Deep Tryz.prog (lets0 fun _ => 0) d_38 := deep_nowT tabk_2 (by kernel_rfl)
def d_39 : DRow := ⟨6, [.one (.sl 0 0 2 2), .one (.v (.int .i64 1)), .one (.v (.int .i64 13))], [([.v (.int .i64 0), .v (.int .i64 5)], 3)], .tup [.one (.slf 1 0 2 1), .one (.v (.int .i64 0))], [([.v (.int .i64 0), .v (.int .i64 1)], 3)], [(0, (0, 0))], [(0, (0, 0))]⟩
set_option maxRecDepth 1000000 in
theorem dk_39 : Deep Tryz.prog (lets0 fun _ => 0) d_39 := deep_nowT tabk_2 (by kernel_rfl)
def ds_2a : List DRow := [d_30, d_31, d_32, d_33, d_34, d_35, d_36, d_37, d_38, d_39]
theorem ds_2a_k : ∀ d ∈ ds_2a, Deep Tryz.prog (lets0 fun _ => 0) d := List.forall_mem_cons.2 ⟨dk_30, List.forall_mem_cons.2 ⟨dk_31, List.forall_mem_cons.2 ⟨dk_32, List.forall_mem_cons.2 ⟨dk_33, List.forall_mem_cons.2 ⟨dk_34, List.forall_mem_cons.2 ⟨dk_35, List.forall_mem_cons.2 ⟨dk_36, List.forall_mem_cons.2 ⟨dk_37, List.forall_mem_cons.2 ⟨dk_38, List.forall_mem_cons.2 ⟨dk_39, (fun _ h => by cases h)⟩⟩⟩⟩⟩⟩⟩⟩⟩⟩
end Go.Proofs.YtmckghoaggopnadGreat.Y
