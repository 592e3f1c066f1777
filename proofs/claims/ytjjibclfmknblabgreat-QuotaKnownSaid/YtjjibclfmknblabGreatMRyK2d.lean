/-
  Calls that are known, each by one run.
-/
import Derived.Test.YtjjibclfmknblabGreatMRyK2
set_option linter.all false
namespace Go.Proofs.YtjjibclfmknblabGreat.Y
open Go Go.Ry Go.RowKit
def d_49 : DRow := ⟨8, [.one (.v (.slice none 0 0)), .one (.v (.int .i64 0)), .one (.v (.int .i64 0)), .one (.sl 0 0 1 1)], [([.v (.int .i64 (-1))], 3)], .tup [.agg [.v (.slice none 0 0), .v (.slice none 0 0), .v (.int .i64 0)], .one (.v (.int .i64 60))], [], [], [(0, (3, 0))]⟩
set_option maxRecDepth 1000000 in
theorem dk_49 : Deep Tryz.prog (lets0 fun _ => 0) d_49 := deep_nowT tabk_2 (by kernel_rfl)
def d_50 : DRow := ⟨8, [.one (.sl 0 0 1 1), .one (.v (.int .i64 0)), .one (.v (.int .i64 0)), .one (.sl 1 0 1 1)], [([.v (.int .i64 0)], 3), ([.v (.int .i64 (-1))], 3)], .tup [.agg [.v (.slice none 0 0), .v (.slice none 0 0), .v (.int .i64 0)], .one (.v (.int .i64 60))], [], [], [(0, (0, 0)), (0, (3, 0))]⟩
set_option maxRecDepth 1000000 in
theorem dk_50 : Deep Tryz.prog (lets0 fun _ => 0) d_50 := deep_nowT tabk_2 (by kernel_rfl)
def d_51 : DRow := ⟨8, [.one (.sl 0 0 2 2), .one (.v (.int .i64 0)), .one (.v (.int .i64 0)), .one (.sl 1 0 1 1)], [([.v (.int .i64 0), .v (.int .i64 0)], 3), ([.v (.int .i64 (-1))], 3)], .tup [.agg [.v (.slice none 0 0), .v (.slice none 0 0), .v (.int .i64 0)], .one (.v (.int .i64 60))], [], [], [(0, (0, 0)), (0, (3, 0))]⟩
set_option maxRecDepth 1000000 in
theorem dk_51 : Deep Tryz.prog (lets0 fun _ => 0) d_51 := deep_nowT tabk_2 (by kernel_rfl)
def d_52 : DRow := ⟨8, [.one (.sl 0 0 2 2), .one (.v (.int .i64 0)), .one (.v (.int .i64 0)), .one (.sl 1 0 1 1)], [([.v (.int .i64 (-1)), .v (.int .i64 5)], 3), ([.v (.int .i64 (-1))], 3)], .tup [.agg [.v (.slice none 0 0), .v (.slice none 0 0), .v (.int .i64 0)], .one (.v (.int .i64 60))], [], [], [(0, (0, 0)), (0, (3, 0))]⟩
set_option maxRecDepth 1000000 in
theorem dk_52 : Deep Tryz.prog (lets0 fun _ => 0) d_52 := deep_nowT tabk_2 (by kernel_rfl)
def d_53 : DRow := ⟨8, [.one (.sl 0 0 1 1), .one (.v (.int .i64 0)), .one (.v (.int .i64 0)), .one (.sl 1 0 1 1)], [([.v (.int .i64 1000000001)], 3), ([.v (.int .i64 (-1))], 3)], .tup [.agg [.v (.slice none 0 0), .v (.slice none 0 0), .v (.int .i64 0)], .one (.v (.int .i64 60))], [], [], [(0, (0, 0)), (0, (3, 0))]⟩
set_option maxRecDepth 1000000 in
theorem dk_53 : Deep Tryz.prog (lets0 fun _ => 0) d_53 := deep_nowT tabk_2 (by kernel_rfl)
def d_54 : DRow := ⟨8, [.one (.sl 0 0 60 60), .one (.v (.int .i64 0)), .one (.v (.int .i64 0)), .one (.sl 1 0 1 1)], [([.v (.int .i64 0), .v (.int .i64 0), .v (.int .i64 0), .v (.int .i64 0), .v (.int .i64 0), .v (.int .i64 0), .v (.int .i64 0), .v (.int .i64 0), .v (.int .i64 0), .v (.int .i64 0), .v (.int .i64 0), .v (.int .i64 0), .v (.int .i64 0), .v (.int .i64 0), .v (.int .i64 0), .v (.int .i64 0), .v (.int .i64 0), .v (.int .i64 0), .v (.int .i64 0), .v (.int .i64 0), .v (.int .i64 0), .v (.int .i64 0), .v (.int .i64 0), .v (.int .i64 0), .v (.int .i64 0), .v (.int .i64 0), .v (.int .i64 0), .v (.int .i64 0), .v (.int .i64 0), .v (.int .i64 0), .v (.int .i64 0), .v (.int .i64 0), .v (.int .i64 0), .v (.int .i64 0), .v (.int .i64 0), .v (.int .i64 0), .v (.int .i64 0), .v (.int .i64 0), .v (.int .i64 0), .v (.int .i64 0), .v (.int .i64 0), .v (.int .i64 0), .v (.int .i64 0), .v (.int .i64 0), .v (.int .i64 0), .v (.int .i64 0), .v (.int .i64 0), .v (.int .i64 0), .v (.int .i64 0), .v (.int .i64 0), .v (.int .i64 0), .v (.int .i64 0), .v (.int .i64 0), .v (.int .i64 0), .v (.int .i64 0), .v (.int .i64 0), .v (.int .i64 0), .v (.int .i64 0), .v (.int .i64 0), .v (.int .i64 0)], 3), ([.v (.int .i64 (-1))], 3)], .tup [.agg [.v (.slice none 0 0), .v (.slice none 0 0), .v (.int .i64 0)], .one (.v (.int .i64 60))], [], [], [(0, (0, 0)), (0, (3, 0))]⟩
set_option maxRecDepth 1000000 in
theorem dk_54 : Deep Tryz.prog (lets0 fun _ => 0) d_54 := deep_nowT tabk_2 (by kernel_rfl)
def d_55 : DRow := ⟨8, [.one (.slf 0 0 61 1), .one (.v (.int .i64 0)), .one (.v (.int .i64 0)), .one (.sl 1 0 1 1)], [([.v (.int .i64 0), .v (.int .i64 0), .v (.int .i64 0), .v (.int .i64 0), .v (.int .i64 0), .v (.int .i64 0), .v (.int .i64 0), .v (.int .i64 0), .v (.int .i64 0), .v (.int .i64 0), .v (.int .i64 0), .v (.int .i64 0), .v (.int .i64 0), .v (.int .i64 0), .v (.int .i64 0), .v (.int .i64 0), .v (.int .i64 0), .v (.int .i64 0), .v (.int .i64 0), .v (.int .i64 0), .v (.int .i64 0), .v (.int .i64 0), .v (.int .i64 0), .v (.int .i64 0), .v (.int .i64 0), .v (.int .i64 0), .v (.int .i64 0), .v (.int .i64 0), .v (.int .i64 0), .v (.int .i64 0), .v (.int .i64 0), .v (.int .i64 0), .v (.int .i64 0), .v (.int .i64 0), .v (.int .i64 0), .v (.int .i64 0), .v (.int .i64 0), .v (.int .i64 0), .v (.int .i64 0), .v (.int .i64 0), .v (.int .i64 0), .v (.int .i64 0), .v (.int .i64 0), .v (.int .i64 0), .v (.int .i64 0), .v (.int .i64 0), .v (.int .i64 0), .v (.int .i64 0), .v (.int .i64 0), .v (.int .i64 0), .v (.int .i64 0), .v (.int .i64 0), .v (.int .i64 0), .v (.int .i64 0), .v (.int .i64 0), .v (.int .i64 0), .v (.int .i64 0), .v (.int .i64 0), .v (.int .i64 0), .v (.int .i64 0), .v (.int .i64 1)], 3), ([.v (.int .i64 (-1))], 3)], .tup [.agg [.v (.slice none 0 0), .v (.slice none 0 0), .v (.int .i64 0)], .one (.v (.int .i64 60))], [], [], [(0, (0, 0)), (0, (3, 0))]⟩
set_option maxRecDepth 1000000 in
theorem dk_55 : Deep Tryz.prog (lets0 fun _ => 0) d_55 := deep_nowT tabk_2 (by kernel_rfl)
def d_56 : DRow := ⟨8, [.one (.sl 0 0 1 1), .one (.v (.int .i64 0)), .one (.v (.int .i64 1)), .one (.sl 1 0 1 1)], [([.v (.int .i64 1)], 3), ([.v (.int .i64 9)], 3)], .tup [.agg [.v (.slice none 0 0), .v (.slice none 0 0), .v (.int .i64 0)], .one (.v (.int .i64 2))], [], [], [(0, (0, 0)), (0, (3, 0))]⟩
set_option maxRecDepth 1000000 in
theorem dk_56 : Deep Tryz.prog (lets0 fun _ => 0) d_56 := deep_nowT tabk_2 (by kernel_rfl)
def d_57 : DRow := ⟨8, [.one (.sl 0 0 1 1), .one (.v (.int .i64 1001)), .one (.v (.int .i64 1)), .one (.sl 1 0 1 1)], [([.v (.int .i64 1)], 3), ([.v (.int .i64 9)], 3)], .tup [.agg [.v (.slice none 0 0), .v (.slice none 0 0), .v (.int .i64 0)], .one (.v (.int .i64 2))], [], [], [(0, (0, 0)), (0, (3, 0))]⟩
set_option maxRecDepth 1000000 in
theorem dk_57 : Deep Tryz.prog (lets0 fun _ => 0) d_57 := deep_nowT tabk_2 (by kernel_rfl)
def d_58 : DRow := ⟨8, [.one (.sl 0 0 1 1), .one (.v (.int .i64 (-1))), .one (.v (.int .i64 1)), .one (.sl 1 0 1 1)], [([.v (.int .i64 1)], 3), ([.v (.int .i64 9)], 3)], .tup [.agg [.v (.slice none 0 0), .v (.slice none 0 0), .v (.int .i64 0)], .one (.v (.int .i64 2))], [], [], [(0, (0, 0)), (0, (3, 0))]⟩
set_option maxRecDepth 1000000 in
theorem dk_58 : Deep Tryz.prog (lets0 fun _ => 0) d_58 := deep_nowT tabk_2 (by kernel_rfl)
def d_59 : DRow := ⟨8, [.one (.sl 0 0 1 1), .one (.v (.int .i64 1)), .one (.v (.int .i64 0)), .one (.sl 1 0 1 1)], [([.v (.int .i64 1)], 3), ([.v (.int .i64 9)], 3)], .tup [.agg [.v (.slice none 0 0), .v (.slice none 0 0), .v (.int .i64 0)], .one (.v (.int .i64 2))], [], [], [(0, (0, 0)), (0, (3, 0))]⟩
set_option maxRecDepth 1000000 in
theorem dk_59 : Deep Tryz.prog (lets0 fun _ => 0) d_59 := deep_nowT tabk_2 (by kernel_rfl)
def d_60 : DRow := ⟨8, [.one (.sl 0 0 1 1), .one (.v (.int .i64 1)), .one (.v (.int .i64 5)), .one (.sl 1 0 1 1)], [([.v (.int .i64 1)], 3), ([.v (.int .i64 9)], 3)], .tup [.agg [.v (.slice none 0 0), .v (.slice none 0 0), .v (.int .i64 0)], .one (.v (.int .i64 2))], [], [], [(0, (0, 0)), (0, (3, 0))]⟩
set_option maxRecDepth 1000000 in
theorem dk_60 : Deep Tryz.prog (lets0 fun _ => 0) d_60 := deep_nowT tabk_2 (by kernel_rfl)
def ds_2d : List DRow := [d_49, d_50, d_51, d_52, d_53, d_54, d_55, d_56, d_57, d_58, d_59, d_60]
theorem ds_2d_k : ∀ d ∈ ds_2d, Deep Tryz.prog (lets0 fun _ => 0) d := List.forall_mem_cons.2 ⟨dk_49, List.forall_mem_cons.2 ⟨dk_50, List.forall_mem_cons.2 ⟨dk_51, List.forall_mem_cons.2 ⟨dk_52, List.forall_mem_cons.2 ⟨dk_53, List.forall_mem_cons.2 ⟨dk_54, List.forall_mem_cons.2 ⟨dk_55, List.forall_mem_cons.2 ⟨dk_56, List.forall_mem_cons.2 ⟨dk_57, List.forall_mem_cons.2 ⟨dk_58, List.forall_mem_cons.2 ⟨dk_59, List.forall_mem_cons.2 ⟨dk_60, (fun _ h => by cases h)⟩⟩⟩⟩⟩⟩⟩⟩⟩⟩⟩⟩
end Go.Proofs.YtjjibclfmknblabGreat.Y
