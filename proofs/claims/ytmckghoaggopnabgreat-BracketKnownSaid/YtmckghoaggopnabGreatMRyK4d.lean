/-
  Calls that are known, each by one run.
-/
import Derived.Test.YtmckghoaggopnabGreatMRyK4
set_option linter.all false
namespace Go.Proofs.YtmckghoaggopnabGreat.Y
open Go Go.Ry Go.RowKit
def d_292 : DRow := ⟨7, [.one (.sl 0 0 3 3), .one (.sl 1 0 2 2), .one (.v (.int .i64 14)), .one (.v (.slice none 0 0))], [([.v (.int .i64 9), .v (.int .i64 5), .v (.int .i64 3)], 3), ([.v (.int .i64 1), .v (.int .i64 1)], 3)], .tup [.one (.v (.bool false)), .one (.v (.int .i64 2))], [], [], [(0, (0, 0)), (0, (1, 0))]⟩
theorem dk_292 : Deep Tryz.prog (lets0 fun _ => 0) d_292 := deep_nowT tabk_4 (by kernel_rfl)
def d_293 : DRow := ⟨7, [.one (.sl 0 0 3 3), .one (.sl 1 0 3 3), .one (.v (.int .i64 14)), .one (.v (.slice none 0 0))], [([.v (.int .i64 9), .v (.int .i64 5), .v (.int .i64 3)], 3), ([.v (.int .i64 1), .v (.int .i64 1), .v (.int .i64 (-1))], 3)], .tup [.one (.v (.bool false)), .one (.v (.int .i64 2))], [], [], [(0, (0, 0)), (0, (1, 0))]⟩
theorem dk_293 : Deep Tryz.prog (lets0 fun _ => 0) d_293 := deep_nowT tabk_4 (by kernel_rfl)
def d_294 : DRow := ⟨7, [.one (.sl 0 0 3 3), .one (.sl 1 0 3 3), .one (.v (.int .i64 14)), .one (.v (.slice none 0 0))], [([.v (.int .i64 9), .v (.int .i64 5), .v (.int .i64 3)], 3), ([.v (.int .i64 0), .v (.int .i64 0), .v (.int .i64 0)], 3)], .tup [.one (.v (.bool false)), .one (.v (.int .i64 2))], [], [], [(0, (0, 0)), (0, (1, 0))]⟩
theorem dk_294 : Deep Tryz.prog (lets0 fun _ => 0) d_294 := deep_nowT tabk_4 (by kernel_rfl)
def d_295 : DRow := ⟨7, [.one (.sl 0 0 3 3), .one (.sl 1 0 3 3), .one (.v (.int .i64 14)), .one (.v (.slice none 0 0))], [([.v (.int .i64 9), .v (.int .i64 5), .v (.int .i64 3)], 3), ([.v (.int .i64 1000), .v (.int .i64 1), .v (.int .i64 0)], 3)], .tup [.one (.v (.bool false)), .one (.v (.int .i64 2))], [], [], [(0, (0, 0)), (0, (1, 0))]⟩
theorem dk_295 : Deep Tryz.prog (lets0 fun _ => 0) d_295 := deep_nowT tabk_4 (by kernel_rfl)
def d_296 : DRow := ⟨7, [.one (.sl 0 0 3 3), .one (.sl 1 0 3 3), .one (.v (.int .i64 14)), .one (.v (.slice none 0 0))], [([.v (.int .i64 9), .v (.int .i64 5), .v (.int .i64 3)], 3), ([.v (.int .i64 0), .v (.int .i64 0), .v (.int .i64 1001)], 3)], .tup [.one (.v (.bool false)), .one (.v (.int .i64 2))], [], [], [(0, (0, 0)), (0, (1, 0))]⟩
theorem dk_296 : Deep Tryz.prog (lets0 fun _ => 0) d_296 := deep_nowT tabk_4 (by kernel_rfl)
def d_297 : DRow := ⟨7, [.one (.sl 0 0 3 3), .one (.sl 1 0 3 3), .one (.v (.int .i64 10)), .one (.v (.slice none 0 0))], [([.v (.int .i64 9), .v (.int .i64 5), .v (.int .i64 3)], 3), ([.v (.int .i64 1), .v (.int .i64 1), .v (.int .i64 1)], 3)], .tup [.one (.v (.bool false)), .one (.v (.int .i64 2))], [], [], [(0, (0, 0)), (0, (1, 0))]⟩
theorem dk_297 : Deep Tryz.prog (lets0 fun _ => 0) d_297 := deep_nowT tabk_4 (by kernel_rfl)
def d_298 : DRow := ⟨7, [.one (.sl 0 0 3 3), .one (.sl 1 0 3 3), .one (.v (.int .i64 16)), .one (.v (.slice none 0 0))], [([.v (.int .i64 9), .v (.int .i64 5), .v (.int .i64 3)], 3), ([.v (.int .i64 1), .v (.int .i64 1), .v (.int .i64 1)], 3)], .tup [.one (.v (.bool false)), .one (.v (.int .i64 2))], [], [], [(0, (0, 0)), (0, (1, 0))]⟩
theorem dk_298 : Deep Tryz.prog (lets0 fun _ => 0) d_298 := deep_nowT tabk_4 (by kernel_rfl)
def d_299 : DRow := ⟨7, [.one (.sl 0 0 3 3), .one (.sl 1 0 3 3), .one (.v (.int .i64 14)), .one (.sl 2 0 2 2)], [([.v (.int .i64 9), .v (.int .i64 5), .v (.int .i64 3)], 3), ([.v (.int .i64 2), .v (.int .i64 1), .v (.int .i64 1)], 3), ([.v (.int .i64 1), .v (.int .i64 1)], 3)], .tup [.one (.v (.bool false)), .one (.v (.int .i64 2))], [], [], [(0, (0, 0)), (0, (1, 0)), (0, (3, 0))]⟩
theorem dk_299 : Deep Tryz.prog (lets0 fun _ => 0) d_299 := deep_nowT tabk_4 (by kernel_rfl)
def d_300 : DRow := ⟨7, [.one (.sl 0 0 3 3), .one (.sl 1 0 3 3), .one (.v (.int .i64 14)), .one (.sl 2 0 3 3)], [([.v (.int .i64 9), .v (.int .i64 5), .v (.int .i64 3)], 3), ([.v (.int .i64 2), .v (.int .i64 1), .v (.int .i64 1)], 3), ([.v (.int .i64 0), .v (.int .i64 0), .v (.int .i64 2)], 3)], .tup [.one (.v (.bool false)), .one (.v (.int .i64 2))], [], [], [(0, (0, 0)), (0, (1, 0)), (0, (3, 0))]⟩
theorem dk_300 : Deep Tryz.prog (lets0 fun _ => 0) d_300 := deep_nowT tabk_4 (by kernel_rfl)
def d_301 : DRow := ⟨7, [.one (.sl 0 0 3 3), .one (.sl 1 0 3 3), .one (.v (.int .i64 14)), .one (.sl 2 0 3 3)], [([.v (.int .i64 9), .v (.int .i64 5), .v (.int .i64 3)], 3), ([.v (.int .i64 2), .v (.int .i64 1), .v (.int .i64 1)], 3), ([.v (.int .i64 0), .v (.int .i64 (-1)), .v (.int .i64 0)], 3)], .tup [.one (.v (.bool false)), .one (.v (.int .i64 2))], [], [], [(0, (0, 0)), (0, (1, 0)), (0, (3, 0))]⟩
theorem dk_301 : Deep Tryz.prog (lets0 fun _ => 0) d_301 := deep_nowT tabk_4 (by kernel_rfl)
def d_302 : DRow := ⟨7, [.one (.sl 0 0 3 3), .one (.sl 1 0 3 3), .one (.v (.int .i64 11)), .one (.v (.slice none 0 0))], [([.v (.int .i64 9), .v (.int .i64 5), .v (.int .i64 3)], 3), ([.v (.int .i64 0), .v (.int .i64 1), .v (.int .i64 1)], 3)], .tup [.one (.v (.bool false)), .one (.v (.int .i64 0))], [], [], [(0, (0, 0)), (0, (1, 0))]⟩
theorem dk_302 : Deep Tryz.prog (lets0 fun _ => 0) d_302 := deep_nowT tabk_4 (by kernel_rfl)
def d_303 : DRow := ⟨7, [.one (.sl 0 0 3 3), .one (.sl 1 0 3 3), .one (.v (.int .i64 12)), .one (.v (.slice none 0 0))], [([.v (.int .i64 9), .v (.int .i64 5), .v (.int .i64 3)], 3), ([.v (.int .i64 2), .v (.int .i64 1), .v (.int .i64 0)], 3)], .tup [.one (.v (.bool false)), .one (.v (.int .i64 0))], [], [], [(0, (0, 0)), (0, (1, 0))]⟩
theorem dk_303 : Deep Tryz.prog (lets0 fun _ => 0) d_303 := deep_nowT tabk_4 (by kernel_rfl)
def d_304 : DRow := ⟨7, [.one (.sl 0 0 2 2), .one (.sl 1 0 2 2), .one (.v (.int .i64 15)), .one (.v (.slice none 0 0))], [([.v (.int .i64 5), .v (.int .i64 0)], 3), ([.v (.int .i64 1), .v (.int .i64 1)], 3)], .tup [.one (.v (.bool false)), .one (.v (.int .i64 0))], [], [], [(0, (0, 0)), (0, (1, 0))]⟩
theorem dk_304 : Deep Tryz.prog (lets0 fun _ => 0) d_304 := deep_nowT tabk_4 (by kernel_rfl)
def d_305 : DRow := ⟨7, [.one (.sl 0 0 2 2), .one (.sl 1 0 2 2), .one (.v (.int .i64 15)), .one (.sl 2 0 2 2)], [([.v (.int .i64 5), .v (.int .i64 0)], 3), ([.v (.int .i64 1), .v (.int .i64 1)], 3), ([.v (.int .i64 0), .v (.int .i64 1)], 3)], .tup [.one (.v (.bool true)), .one (.v (.int .i64 0))], [], [], [(0, (0, 0)), (0, (1, 0)), (0, (3, 0))]⟩
theorem dk_305 : Deep Tryz.prog (lets0 fun _ => 0) d_305 := deep_nowT tabk_4 (by kernel_rfl)
def ds_4d : List DRow := [d_292, d_293, d_294, d_295, d_296, d_297, d_298, d_299, d_300, d_301, d_302, d_303, d_304, d_305]
theorem ds_4d_k : ∀ d ∈ ds_4d, Deep Tryz.prog (lets0 fun _ => 0) d := List.forall_mem_cons.2 ⟨dk_292, List.forall_mem_cons.2 ⟨dk_293, List.forall_mem_cons.2 ⟨dk_294, List.forall_mem_cons.2 ⟨dk_295, List.forall_mem_cons.2 ⟨dk_296, List.forall_mem_cons.2 ⟨dk_297, List.forall_mem_cons.2 ⟨dk_298, List.forall_mem_cons.2 ⟨dk_299, List.forall_mem_cons.2 ⟨dk_300, List.forall_mem_cons.2 ⟨dk_301, List.forall_mem_cons.2 ⟨dk_302, List.forall_mem_cons.2 ⟨dk_303, List.forall_mem_cons.2 ⟨dk_304, List.forall_mem_cons.2 ⟨dk_305, (fun _ h => by cases h)⟩⟩⟩⟩⟩⟩⟩⟩⟩⟩⟩⟩⟩⟩
end Go.Proofs.YtmckghoaggopnabGreat.Y
