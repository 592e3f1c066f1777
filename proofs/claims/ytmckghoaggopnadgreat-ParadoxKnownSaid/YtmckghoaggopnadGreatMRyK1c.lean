/-
  Calls that are known, each by one run.
-/
import Derived.Test.YtmckghoaggopnadGreatMRyK1
set_option linter.all false
namespace Go.Proofs.YtmckghoaggopnadGreat.Y
open Go Go.Ry Go.RowKit
def d_21 : DRow := ⟨41, [.one (.sl 0 0 2 2), .one (.v (.int .i64 1)), .one (.v (.int .i64 11)), .one (.v (.slice none 0 0))], [([.v (.int .i64 0), .v (.int .i64 5)], 3)], .tup [.agg [.slf 1 0 2 1, .v (.slice none 0 0), .v (.int .i64 0)], .one (.v (.int .i64 0))], [([.v (.int .i64 0), .v (.int .i64 1)], 3)], [(0, (0, 0))], [(0, (0, 0))]⟩
set_option maxRecDepth 1000000 in
theorem dk_21 : Deep Tryz.prog (lets0 fun _ => 0) d_21 := deep_nowT tabk_1 (by kernel_rfl)
def d_22 : DRow := ⟨41, [.one (.sl 0 0 2 2), .one (.v (.int .i64 1)), .one (.v (.int .i64 12)), .one (.v (.slice none 0 0))], [([.v (.int .i64 0), .v (.int .i64 5)], 3)], .tup [.agg [.slf 1 0 2 1, .v (.slice none 0 0), .v (.int .i64 0)], .one (.v (.int .i64 0))], [([.v (.int .i64 0), .v (.int .i64 1)], 3)], [(0, (0, 0))], [(0, (0, 0))]⟩
set_option maxRecDepth 1000000 in
theorem dk_22 : Deep Tryz.prog (lets0 fun _ => 0) d_22 := deep_nowT tabk_1 (by kernel_rfl)
def d_23 : DRow := ⟨41, [.one (.sl 0 0 2 2), .one (.v (.int .i64 1)), .one (.v (.int .i64 13)), .one (.v (.slice none 0 0))], [([.v (.int .i64 0), .v (.int .i64 5)], 3)], .tup [.agg [.slf 1 0 2 1, .v (.slice none 0 0), .v (.int .i64 0)], .one (.v (.int .i64 0))], [([.v (.int .i64 0), .v (.int .i64 1)], 3)], [(0, (0, 0))], [(0, (0, 0))]⟩
set_option maxRecDepth 1000000 in
theorem dk_23 : Deep Tryz.prog (lets0 fun _ => 0) d_23 := deep_nowT tabk_1 (by kernel_rfl)
def d_24 : DRow := ⟨41, [.one (.sl 0 0 2 2), .one (.v (.int .i64 1)), .one (.v (.int .i64 14)), .one (.v (.slice none 0 0))], [([.v (.int .i64 0), .v (.int .i64 5)], 3)], .tup [.agg [.slf 1 0 2 1, .v (.slice none 0 0), .v (.int .i64 0)], .one (.v (.int .i64 0))], [([.v (.int .i64 0), .v (.int .i64 1)], 3)], [(0, (0, 0))], [(0, (0, 0))]⟩
set_option maxRecDepth 1000000 in
theorem dk_24 : Deep Tryz.prog (lets0 fun _ => 0) d_24 := deep_nowT tabk_1 (by kernel_rfl)
def d_25 : DRow := ⟨41, [.one (.sl 0 0 2 2), .one (.v (.int .i64 1)), .one (.v (.int .i64 15)), .one (.v (.slice none 0 0))], [([.v (.int .i64 0), .v (.int .i64 5)], 3)], .tup [.agg [.slf 1 0 2 1, .v (.slice none 0 0), .v (.int .i64 0)], .one (.v (.int .i64 0))], [([.v (.int .i64 0), .v (.int .i64 1)], 3)], [(0, (0, 0))], [(0, (0, 0))]⟩
set_option maxRecDepth 1000000 in
theorem dk_25 : Deep Tryz.prog (lets0 fun _ => 0) d_25 := deep_nowT tabk_1 (by kernel_rfl)
def d_26 : DRow := ⟨41, [.one (.sl 0 0 3 3), .one (.v (.int .i64 1001)), .one (.v (.int .i64 11)), .one (.v (.slice none 0 0))], [([.v (.int .i64 6), .v (.int .i64 6), .v (.int .i64 2)], 3)], .tup [.agg [.v (.slice none 0 0), .v (.slice none 0 0), .v (.int .i64 0)], .one (.v (.int .i64 2))], [], [], [(0, (0, 0))]⟩
set_option maxRecDepth 1000000 in
theorem dk_26 : Deep Tryz.prog (lets0 fun _ => 0) d_26 := deep_nowT tabk_1 (by kernel_rfl)
def d_27 : DRow := ⟨41, [.one (.sl 0 0 2 2), .one (.v (.int .i64 3)), .one (.v (.int .i64 14)), .one (.v (.slice none 0 0))], [([.v (.int .i64 3), .v (.int .i64 2)], 3)], .tup [.agg [.slf 1 0 2 1, .v (.slice none 0 0), .v (.int .i64 0)], .one (.v (.int .i64 0))], [([.v (.int .i64 2), .v (.int .i64 1)], 3)], [(0, (0, 0))], [(0, (0, 0))]⟩
set_option maxRecDepth 1000000 in
theorem dk_27 : Deep Tryz.prog (lets0 fun _ => 0) d_27 := deep_nowT tabk_1 (by kernel_rfl)
def d_28 : DRow := ⟨41, [.one (.sl 0 0 2 2), .one (.v (.int .i64 4)), .one (.v (.int .i64 14)), .one (.v (.slice none 0 0))], [([.v (.int .i64 3), .v (.int .i64 1)], 3)], .tup [.agg [.slf 1 0 2 1, .v (.slice none 0 0), .v (.int .i64 0)], .one (.v (.int .i64 0))], [([.v (.int .i64 3), .v (.int .i64 1)], 3)], [(0, (0, 0))], [(0, (0, 0))]⟩
set_option maxRecDepth 1000000 in
theorem dk_28 : Deep Tryz.prog (lets0 fun _ => 0) d_28 := deep_nowT tabk_1 (by kernel_rfl)
def d_29 : DRow := ⟨41, [.one (.slf 0 0 3 1), .one (.v (.int .i64 5)), .one (.v (.int .i64 14)), .one (.v (.slice none 0 0))], [([.v (.int .i64 3), .v (.int .i64 1), .v (.int .i64 4)], 3)], .tup [.agg [.slf 1 0 3 1, .v (.slice none 0 0), .v (.int .i64 0)], .one (.v (.int .i64 0))], [([.v (.int .i64 2), .v (.int .i64 1), .v (.int .i64 2)], 3)], [(0, (0, 0))], [(0, (0, 0))]⟩
set_option maxRecDepth 1000000 in
theorem dk_29 : Deep Tryz.prog (lets0 fun _ => 0) d_29 := deep_nowT tabk_1 (by kernel_rfl)
def ds_1c : List DRow := [d_21, d_22, d_23, d_24, d_25, d_26, d_27, d_28, d_29]
theorem ds_1c_k : ∀ d ∈ ds_1c, Deep Tryz.prog (lets0 fun _ => 0) d := List.forall_mem_cons.2 ⟨dk_21, List.forall_mem_cons.2 ⟨dk_22, List.forall_mem_cons.2 ⟨dk_23, List.forall_mem_cons.2 ⟨dk_24, List.forall_mem_cons.2 ⟨dk_25, List.forall_mem_cons.2 ⟨dk_26, List.forall_mem_cons.2 ⟨dk_27, List.forall_mem_cons.2 ⟨dk_28, List.forall_mem_cons.2 ⟨dk_29, (fun _ h => by cases h)⟩⟩⟩⟩⟩⟩⟩⟩⟩
end Go.Proofs.YtmckghoaggopnadGreat.Y
