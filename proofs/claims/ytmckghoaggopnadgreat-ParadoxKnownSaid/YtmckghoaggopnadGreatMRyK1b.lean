/-
  Calls that are known, each by one run.
-/
import Derived.Test.YtmckghoaggopnadGreatMRyK1
set_option linter.all false
namespace Go.Proofs.YtmckghoaggopnadGreat.Y
open Go Go.Ry Go.RowKit
def d_11 : DRow := ⟨40, [.one (.slf 0 0 3 1), .one (.v (.int .i64 3)), .one (.v (.int .i64 1)), .one (.v (.slice none 0 0))], [([.v (.int .i64 1), .v (.int .i64 1), .v (.int .i64 100)], 3)], .tup [.agg [.sl 1 0 3 3, .v (.slice none 0 0), .v (.int .i64 0)], .one (.v (.int .i64 0))], [([.v (.int .i64 0), .v (.int .i64 0), .v (.int .i64 3)], 3)], [(0, (0, 0))], [(0, (0, 0))]⟩
set_option maxRecDepth 1000000 in
theorem dk_11 : Deep Tryz.prog (lets0 fun _ => 0) d_11 := deep_nowT tabk_1 (by kernel_rfl)
def d_12 : DRow := ⟨40, [.one (.sl 0 0 2 2), .one (.v (.int .i64 1)), .one (.v (.int .i64 1)), .one (.v (.slice none 0 0))], [([.v (.int .i64 0), .v (.int .i64 5)], 3)], .tup [.agg [.sl 1 0 2 2, .v (.slice none 0 0), .v (.int .i64 0)], .one (.v (.int .i64 0))], [([.v (.int .i64 0), .v (.int .i64 1)], 3)], [(0, (0, 0))], [(0, (0, 0))]⟩
set_option maxRecDepth 1000000 in
theorem dk_12 : Deep Tryz.prog (lets0 fun _ => 0) d_12 := deep_nowT tabk_1 (by kernel_rfl)
def d_13 : DRow := ⟨40, [.one (.sl 0 0 2 2), .one (.v (.int .i64 1)), .one (.v (.int .i64 2)), .one (.v (.slice none 0 0))], [([.v (.int .i64 0), .v (.int .i64 5)], 3)], .tup [.agg [.sl 1 0 2 2, .v (.slice none 0 0), .v (.int .i64 0)], .one (.v (.int .i64 0))], [([.v (.int .i64 0), .v (.int .i64 1)], 3)], [(0, (0, 0))], [(0, (0, 0))]⟩
set_option maxRecDepth 1000000 in
theorem dk_13 : Deep Tryz.prog (lets0 fun _ => 0) d_13 := deep_nowT tabk_1 (by kernel_rfl)
def d_14 : DRow := ⟨40, [.one (.sl 0 0 2 2), .one (.v (.int .i64 1)), .one (.v (.int .i64 3)), .one (.v (.slice none 0 0))], [([.v (.int .i64 0), .v (.int .i64 5)], 3)], .tup [.agg [.v (.slice none 0 0), .v (.slice none 0 0), .v (.int .i64 0)], .one (.v (.int .i64 9))], [], [], [(0, (0, 0))]⟩
set_option maxRecDepth 1000000 in
theorem dk_14 : Deep Tryz.prog (lets0 fun _ => 0) d_14 := deep_nowT tabk_1 (by kernel_rfl)
def d_15 : DRow := ⟨40, [.one (.sl 0 0 2 2), .one (.v (.int .i64 1)), .one (.v (.int .i64 4)), .one (.v (.slice none 0 0))], [([.v (.int .i64 0), .v (.int .i64 5)], 3)], .tup [.agg [.v (.slice none 0 0), .v (.slice none 0 0), .v (.int .i64 0)], .one (.v (.int .i64 9))], [], [], [(0, (0, 0))]⟩
set_option maxRecDepth 1000000 in
theorem dk_15 : Deep Tryz.prog (lets0 fun _ => 0) d_15 := deep_nowT tabk_1 (by kernel_rfl)
def d_16 : DRow := ⟨40, [.one (.sl 0 0 2 2), .one (.v (.int .i64 2)), .one (.v (.int .i64 4)), .one (.v (.slice none 0 0))], [([.v (.int .i64 1), .v (.int .i64 1)], 3)], .tup [.agg [.v (.slice none 0 0), .v (.slice none 0 0), .v (.int .i64 0)], .one (.v (.int .i64 9))], [], [], [(0, (0, 0))]⟩
set_option maxRecDepth 1000000 in
theorem dk_16 : Deep Tryz.prog (lets0 fun _ => 0) d_16 := deep_nowT tabk_1 (by kernel_rfl)
def d_17 : DRow := ⟨40, [.one (.sl 0 0 60 60), .one (.v (.int .i64 60)), .one (.v (.int .i64 1)), .one (.v (.slice none 0 0))], [([.v (.int .i64 1), .v (.int .i64 1), .v (.int .i64 1), .v (.int .i64 1), .v (.int .i64 1), .v (.int .i64 1), .v (.int .i64 1), .v (.int .i64 1), .v (.int .i64 1), .v (.int .i64 1), .v (.int .i64 1), .v (.int .i64 1), .v (.int .i64 1), .v (.int .i64 1), .v (.int .i64 1), .v (.int .i64 1), .v (.int .i64 1), .v (.int .i64 1), .v (.int .i64 1), .v (.int .i64 1), .v (.int .i64 1), .v (.int .i64 1), .v (.int .i64 1), .v (.int .i64 1), .v (.int .i64 1), .v (.int .i64 1), .v (.int .i64 1), .v (.int .i64 1), .v (.int .i64 1), .v (.int .i64 1), .v (.int .i64 1), .v (.int .i64 1), .v (.int .i64 1), .v (.int .i64 1), .v (.int .i64 1), .v (.int .i64 1), .v (.int .i64 1), .v (.int .i64 1), .v (.int .i64 1), .v (.int .i64 1), .v (.int .i64 1), .v (.int .i64 1), .v (.int .i64 1), .v (.int .i64 1), .v (.int .i64 1), .v (.int .i64 1), .v (.int .i64 1), .v (.int .i64 1), .v (.int .i64 1), .v (.int .i64 1), .v (.int .i64 1), .v (.int .i64 1), .v (.int .i64 1), .v (.int .i64 1), .v (.int .i64 1), .v (.int .i64 1), .v (.int .i64 1), .v (.int .i64 1), .v (.int .i64 1), .v (.int .i64 1)], 3)], .tup [.agg [.sl 1 0 60 60, .v (.slice none 0 0), .v (.int .i64 0)], .one (.v (.int .i64 0))], [([.v (.int .i64 1), .v (.int .i64 1), .v (.int .i64 1), .v (.int .i64 1), .v (.int .i64 1), .v (.int .i64 1), .v (.int .i64 1), .v (.int .i64 1), .v (.int .i64 1), .v (.int .i64 1), .v (.int .i64 1), .v (.int .i64 1), .v (.int .i64 1), .v (.int .i64 1), .v (.int .i64 1), .v (.int .i64 1), .v (.int .i64 1), .v (.int .i64 1), .v (.int .i64 1), .v (.int .i64 1), .v (.int .i64 1), .v (.int .i64 1), .v (.int .i64 1), .v (.int .i64 1), .v (.int .i64 1), .v (.int .i64 1), .v (.int .i64 1), .v (.int .i64 1), .v (.int .i64 1), .v (.int .i64 1), .v (.int .i64 1), .v (.int .i64 1), .v (.int .i64 1), .v (.int .i64 1), .v (.int .i64 1), .v (.int .i64 1), .v (.int .i64 1), .v (.int .i64 1), .v (.int .i64 1), .v (.int .i64 1), .v (.int .i64 1), .v (.int .i64 1), .v (.int .i64 1), .v (.int .i64 1), .v (.int .i64 1), .v (.int .i64 1), .v (.int .i64 1), .v (.int .i64 1), .v (.int .i64 1), .v (.int .i64 1), .v (.int .i64 1), .v (.int .i64 1), .v (.int .i64 1), .v (.int .i64 1), .v (.int .i64 1), .v (.int .i64 1), .v (.int .i64 1), .v (.int .i64 1), .v (.int .i64 1), .v (.int .i64 1)], 3)], [(0, (0, 0))], [(0, (0, 0))]⟩
set_option maxRecDepth 1000000 in
theorem dk_17 : Deep Tryz.prog (lets0 fun _ => 0) d_17 := deep_nowT tabk_1 (by kernel_rfl)
def d_18 : DRow := ⟨41, [.one (.sl 0 0 2 2), .one (.v (.int .i64 3)), .one (.v (.int .i64 14)), .one (.v (.slice none 0 0))], [([.v (.int .i64 2), .v (.int .i64 2)], 3)], .tup [.agg [.slf 1 0 2 1, .slf 2 0 2 1, .v (.int .i64 1)], .one (.v (.int .i64 0))], [([.v (.int .i64 1), .v (.int .i64 1)], 3), ([.v (.int .i64 0), .v (.int .i64 1)], 3)], [(0, (0, 0)), (0, (0, 1))], [(0, (0, 0))]⟩
set_option maxRecDepth 1000000 in
theorem dk_18 : Deep Tryz.prog (lets0 fun _ => 0) d_18 := deep_nowT tabk_1 (by kernel_rfl)
def d_19 : DRow := ⟨41, [.one (.sl 0 0 2 2), .one (.v (.int .i64 4)), .one (.v (.int .i64 14)), .one (.v (.slice none 0 0))], [([.v (.int .i64 147), .v (.int .i64 253)], 3)], .tup [.agg [.slf 1 0 2 1, .v (.slice none 0 0), .v (.int .i64 0)], .one (.v (.int .i64 0))], [([.v (.int .i64 1), .v (.int .i64 3)], 3)], [(0, (0, 0))], [(0, (0, 0))]⟩
set_option maxRecDepth 1000000 in
theorem dk_19 : Deep Tryz.prog (lets0 fun _ => 0) d_19 := deep_nowT tabk_1 (by kernel_rfl)
def d_20 : DRow := ⟨41, [.one (.slf 0 0 3 1), .one (.v (.int .i64 5)), .one (.v (.int .i64 14)), .one (.v (.slice none 0 0))], [([.v (.int .i64 147), .v (.int .i64 253), .v (.int .i64 132)], 3)], .tup [.agg [.slf 1 0 3 1, .v (.slice none 0 0), .v (.int .i64 0)], .one (.v (.int .i64 0))], [([.v (.int .i64 1), .v (.int .i64 3), .v (.int .i64 1)], 3)], [(0, (0, 0))], [(0, (0, 0))]⟩
set_option maxRecDepth 1000000 in
theorem dk_20 : Deep Tryz.prog (lets0 fun _ => 0) d_20 := deep_nowT tabk_1 (by kernel_rfl)
def ds_1b : List DRow := [d_11, d_12, d_13, d_14, d_15, d_16, d_17, d_18, d_19, d_20]
theorem ds_1b_k : ∀ d ∈ ds_1b, Deep Tryz.prog (lets0 fun _ => 0) d := List.forall_mem_cons.2 ⟨dk_11, List.forall_mem_cons.2 ⟨dk_12, List.forall_mem_cons.2 ⟨dk_13, List.forall_mem_cons.2 ⟨dk_14, List.forall_mem_cons.2 ⟨dk_15, List.forall_mem_cons.2 ⟨dk_16, List.forall_mem_cons.2 ⟨dk_17, List.forall_mem_cons.2 ⟨dk_18, List.forall_mem_cons.2 ⟨dk_19, List.forall_mem_cons.2 ⟨dk_20, (fun _ h => by cases h)⟩⟩⟩⟩⟩⟩⟩⟩⟩⟩
end Go.Proofs.YtmckghoaggopnadGreat.Y
