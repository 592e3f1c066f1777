/-
  Calls that are known, each by one run.
-/
import Derived.Test.YtjjibclfmknblaaGreatMRyK1
set_option linter.all false
namespace Go.Proofs.YtjjibclfmknblaaGreat.Y
open Go Go.Ry Go.RowKit
def d_1 : DRow := ⟨36, [.one (.sl 0 0 2 2), .one (.v (.int .i64 2)), .one (.v (.int .i64 4)), .one (.v (.slice none 0 0))], [([.v (.int .i64 5), .v (.int .i64 5)], 3)], .tup [.agg [.v (.slice none 0 0), .v (.slice none 0 0), .v (.int .i64 0)], .one (.v (.int .i64 9))], [], [], [(0, (0, 0))]⟩
set_option maxRecDepth 1000000 in
theorem dk_1 : Deep Tryz.prog (lets0 fun _ => 0) d_1 := deep_nowT tabk_1 (by kernel_rfl)
def d_2 : DRow := ⟨36, [.one (.sl 0 0 2 2), .one (.v (.int .i64 3)), .one (.v (.int .i64 3)), .one (.v (.slice none 0 0))], [([.v (.int .i64 9), .v (.int .i64 0)], 3)], .tup [.agg [.v (.slice none 0 0), .v (.slice none 0 0), .v (.int .i64 0)], .one (.v (.int .i64 9))], [], [], [(0, (0, 0))]⟩
set_option maxRecDepth 1000000 in
theorem dk_2 : Deep Tryz.prog (lets0 fun _ => 0) d_2 := deep_nowT tabk_1 (by kernel_rfl)
def d_3 : DRow := ⟨37, [.one (.sl 0 0 3 3), .one (.v (.int .i64 10)), .one (.v (.int .i64 14)), .one (.v (.slice none 0 0))], [([.v (.int .i64 50), .v (.int .i64 45), .v (.int .i64 0)], 3)], .tup [.agg [.slf 1 0 3 1, .v (.slice none 0 0), .v (.int .i64 0)], .one (.v (.int .i64 0))], [([.v (.int .i64 5), .v (.int .i64 5), .v (.int .i64 0)], 3)], [(0, (0, 0))], [(0, (0, 0))]⟩
set_option maxRecDepth 1000000 in
theorem dk_3 : Deep Tryz.prog (lets0 fun _ => 0) d_3 := deep_nowT tabk_1 (by kernel_rfl)
def d_4 : DRow := ⟨37, [.one (.slf 0 0 2 1), .one (.v (.int .i64 5)), .one (.v (.int .i64 14)), .one (.v (.slice none 0 0))], [([.v (.int .i64 30), .v (.int .i64 15)], 3)], .tup [.agg [.slf 1 0 2 1, .v (.slice none 0 0), .v (.int .i64 0)], .one (.v (.int .i64 0))], [([.v (.int .i64 3), .v (.int .i64 2)], 3)], [(0, (0, 0))], [(0, (0, 0))]⟩
set_option maxRecDepth 1000000 in
theorem dk_4 : Deep Tryz.prog (lets0 fun _ => 0) d_4 := deep_nowT tabk_1 (by kernel_rfl)
def d_5 : DRow := ⟨37, [.one (.sl 0 0 3 3), .one (.v (.int .i64 10)), .one (.v (.int .i64 14)), .one (.v (.slice none 0 0))], [([.v (.int .i64 50), .v (.int .i64 45), .v (.int .i64 5)], 3)], .tup [.agg [.slf 1 0 3 1, .slf 2 0 2 1, .v (.int .i64 1)], .one (.v (.int .i64 0))], [([.v (.int .i64 5), .v (.int .i64 4), .v (.int .i64 0)], 3), ([.v (.int .i64 1), .v (.int .i64 2)], 3)], [(0, (0, 0)), (0, (0, 1))], [(0, (0, 0))]⟩
set_option maxRecDepth 1000000 in
theorem dk_5 : Deep Tryz.prog (lets0 fun _ => 0) d_5 := deep_nowT tabk_1 (by kernel_rfl)
def d_6 : DRow := ⟨37, [.one (.sl 0 0 2 2), .one (.v (.int .i64 2)), .one (.v (.int .i64 11)), .one (.v (.slice none 0 0))], [([.v (.int .i64 9), .v (.int .i64 1)], 3)], .tup [.agg [.slf 1 0 2 1, .v (.slice none 0 0), .v (.int .i64 0)], .one (.v (.int .i64 0))], [([.v (.int .i64 1), .v (.int .i64 1)], 3)], [(0, (0, 0))], [(0, (0, 0))]⟩
set_option maxRecDepth 1000000 in
theorem dk_6 : Deep Tryz.prog (lets0 fun _ => 0) d_6 := deep_nowT tabk_1 (by kernel_rfl)
def d_7 : DRow := ⟨37, [.one (.sl 0 0 3 3), .one (.v (.int .i64 6)), .one (.v (.int .i64 14)), .one (.v (.slice none 0 0))], [([.v (.int .i64 50), .v (.int .i64 45), .v (.int .i64 0)], 3)], .tup [.agg [.slf 1 0 3 1, .v (.slice none 0 0), .v (.int .i64 0)], .one (.v (.int .i64 0))], [([.v (.int .i64 3), .v (.int .i64 3), .v (.int .i64 0)], 3)], [(0, (0, 0))], [(0, (0, 0))]⟩
set_option maxRecDepth 1000000 in
theorem dk_7 : Deep Tryz.prog (lets0 fun _ => 0) d_7 := deep_nowT tabk_1 (by kernel_rfl)
def d_8 : DRow := ⟨37, [.one (.slf 0 0 2 1), .one (.v (.int .i64 3)), .one (.v (.int .i64 14)), .one (.v (.slice none 0 0))], [([.v (.int .i64 30), .v (.int .i64 15)], 3)], .tup [.agg [.slf 1 0 2 1, .v (.slice none 0 0), .v (.int .i64 0)], .one (.v (.int .i64 0))], [([.v (.int .i64 2), .v (.int .i64 1)], 3)], [(0, (0, 0))], [(0, (0, 0))]⟩
set_option maxRecDepth 1000000 in
theorem dk_8 : Deep Tryz.prog (lets0 fun _ => 0) d_8 := deep_nowT tabk_1 (by kernel_rfl)
def d_9 : DRow := ⟨37, [.one (.sl 0 0 2 2), .one (.v (.int .i64 1)), .one (.v (.int .i64 14)), .one (.v (.slice none 0 0))], [([.v (.int .i64 5), .v (.int .i64 5)], 3)], .tup [.agg [.slf 1 0 2 1, .slf 2 0 2 1, .v (.int .i64 1)], .one (.v (.int .i64 0))], [([.v (.int .i64 0), .v (.int .i64 0)], 3), ([.v (.int .i64 0), .v (.int .i64 1)], 3)], [(0, (0, 0)), (0, (0, 1))], [(0, (0, 0))]⟩
set_option maxRecDepth 1000000 in
theorem dk_9 : Deep Tryz.prog (lets0 fun _ => 0) d_9 := deep_nowT tabk_1 (by kernel_rfl)
def d_10 : DRow := ⟨37, [.one (.sl 0 0 2 2), .one (.v (.int .i64 1)), .one (.v (.int .i64 14)), .one (.v (.slice none 0 0))], [([.v (.int .i64 10), .v (.int .i64 4)], 3)], .tup [.agg [.slf 1 0 2 1, .v (.slice none 0 0), .v (.int .i64 0)], .one (.v (.int .i64 0))], [([.v (.int .i64 1), .v (.int .i64 0)], 3)], [(0, (0, 0))], [(0, (0, 0))]⟩
set_option maxRecDepth 1000000 in
theorem dk_10 : Deep Tryz.prog (lets0 fun _ => 0) d_10 := deep_nowT tabk_1 (by kernel_rfl)
def d_11 : DRow := ⟨37, [.one (.slf 0 0 2 1), .one (.v (.int .i64 1)), .one (.v (.int .i64 14)), .one (.v (.slice none 0 0))], [([.v (.int .i64 5), .v (.int .i64 5)], 3)], .tup [.agg [.slf 1 0 2 1, .slf 2 0 2 1, .v (.int .i64 1)], .one (.v (.int .i64 0))], [([.v (.int .i64 0), .v (.int .i64 0)], 3), ([.v (.int .i64 0), .v (.int .i64 1)], 3)], [(0, (0, 0)), (0, (0, 1))], [(0, (0, 0))]⟩
set_option maxRecDepth 1000000 in
theorem dk_11 : Deep Tryz.prog (lets0 fun _ => 0) d_11 := deep_nowT tabk_1 (by kernel_rfl)
def d_12 : DRow := ⟨37, [.one (.sl 0 0 2 2), .one (.v (.int .i64 2)), .one (.v (.int .i64 11)), .one (.v (.slice none 0 0))], [([.v (.int .i64 9), .v (.int .i64 0)], 3)], .tup [.agg [.slf 1 0 2 1, .v (.slice none 0 0), .v (.int .i64 0)], .one (.v (.int .i64 0))], [([.v (.int .i64 2), .v (.int .i64 0)], 3)], [(0, (0, 0))], [(0, (0, 0))]⟩
set_option maxRecDepth 1000000 in
theorem dk_12 : Deep Tryz.prog (lets0 fun _ => 0) d_12 := deep_nowT tabk_1 (by kernel_rfl)
def ds_1a : List DRow := [d_1, d_2, d_3, d_4, d_5, d_6, d_7, d_8, d_9, d_10, d_11, d_12]
theorem ds_1a_k : ∀ d ∈ ds_1a, Deep Tryz.prog (lets0 fun _ => 0) d := List.forall_mem_cons.2 ⟨dk_1, List.forall_mem_cons.2 ⟨dk_2, List.forall_mem_cons.2 ⟨dk_3, List.forall_mem_cons.2 ⟨dk_4, List.forall_mem_cons.2 ⟨dk_5, List.forall_mem_cons.2 ⟨dk_6, List.forall_mem_cons.2 ⟨dk_7, List.forall_mem_cons.2 ⟨dk_8, List.forall_mem_cons.2 ⟨dk_9, List.forall_mem_cons.2 ⟨dk_10, List.forall_mem_cons.2 ⟨dk_11, List.forall_mem_cons.2 ⟨dk_12, (fun _ h => by cases h)⟩⟩⟩⟩⟩⟩⟩⟩⟩⟩⟩⟩
end Go.Proofs.YtjjibclfmknblaaGreat.Y
