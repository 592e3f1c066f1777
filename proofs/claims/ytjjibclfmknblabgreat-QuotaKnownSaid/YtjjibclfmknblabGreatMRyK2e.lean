/-
  Calls that are known, each by one run.
-/
import Derived.Test.YtjjibclfmknblabGreatMRyK2
set_option linter.all false
namespace Go.Proofs.YtjjibclfmknblabGreat.Y
open Go Go.Ry Go.RowKit
def d_61 : DRow := ⟨8, [.one (.sl 0 0 1 1), .one (.v (.int .i64 1)), .one (.v (.int .i64 11)), .one (.sl 1 0 1 1)], [([.v (.int .i64 1)], 3), ([.v (.int .i64 9)], 3)], .tup [.agg [.v (.slice none 0 0), .v (.slice none 0 0), .v (.int .i64 0)], .one (.v (.int .i64 2))], [], [], [(0, (0, 0)), (0, (3, 0))]⟩
set_option maxRecDepth 1000000 in
theorem dk_61 : Deep Tryz.prog (lets0 fun _ => 0) d_61 := deep_nowT tabk_2 (by kernel_rfl)
def d_62 : DRow := ⟨8, [.one (.sl 0 0 1 1), .one (.v (.int .i64 2)), .one (.v (.int .i64 1)), .one (.sl 1 0 2 2)], [([.v (.int .i64 1)], 3), ([.v (.int .i64 0), .v (.int .i64 0)], 3)], .tup [.agg [.v (.slice none 0 0), .v (.slice none 0 0), .v (.int .i64 0)], .one (.v (.int .i64 2))], [], [], [(0, (0, 0)), (0, (3, 0))]⟩
set_option maxRecDepth 1000000 in
theorem dk_62 : Deep Tryz.prog (lets0 fun _ => 0) d_62 := deep_nowT tabk_2 (by kernel_rfl)
def d_63 : DRow := ⟨8, [.one (.sl 0 0 1 1), .one (.v (.int .i64 2)), .one (.v (.int .i64 1)), .one (.sl 1 0 1 1)], [([.v (.int .i64 1)], 3), ([.v (.int .i64 (-1))], 3)], .tup [.agg [.v (.slice none 0 0), .v (.slice none 0 0), .v (.int .i64 0)], .one (.v (.int .i64 2))], [], [], [(0, (0, 0)), (0, (3, 0))]⟩
set_option maxRecDepth 1000000 in
theorem dk_63 : Deep Tryz.prog (lets0 fun _ => 0) d_63 := deep_nowT tabk_2 (by kernel_rfl)
def d_64 : DRow := ⟨8, [.one (.sl 0 0 1 1), .one (.v (.int .i64 2)), .one (.v (.int .i64 1)), .one (.sl 1 0 1 1)], [([.v (.int .i64 1)], 3), ([.v (.int .i64 3)], 3)], .tup [.agg [.v (.slice none 0 0), .v (.slice none 0 0), .v (.int .i64 0)], .one (.v (.int .i64 2))], [], [], [(0, (0, 0)), (0, (3, 0))]⟩
set_option maxRecDepth 1000000 in
theorem dk_64 : Deep Tryz.prog (lets0 fun _ => 0) d_64 := deep_nowT tabk_2 (by kernel_rfl)
def d_65 : DRow := ⟨8, [.one (.sl 0 0 1 1), .one (.v (.int .i64 2)), .one (.v (.int .i64 1)), .one (.sl 1 0 1 1)], [([.v (.int .i64 1)], 3), ([.v (.int .i64 4611686018427387904)], 3)], .tup [.agg [.v (.slice none 0 0), .v (.slice none 0 0), .v (.int .i64 0)], .one (.v (.int .i64 2))], [], [], [(0, (0, 0)), (0, (3, 0))]⟩
set_option maxRecDepth 1000000 in
theorem dk_65 : Deep Tryz.prog (lets0 fun _ => 0) d_65 := deep_nowT tabk_2 (by kernel_rfl)
def d_66 : DRow := ⟨8, [.one (.sl 0 0 3 3), .one (.v (.int .i64 10)), .one (.v (.int .i64 1)), .one (.sl 1 0 3 3)], [([.v (.int .i64 1), .v (.int .i64 10), .v (.int .i64 39)], 3), ([.v (.int .i64 2), .v (.int .i64 2), .v (.int .i64 0)], 3)], .tup [.agg [.sl 2 0 3 3, .v (.slice none 0 0), .v (.int .i64 0)], .one (.v (.int .i64 0))], [([.v (.int .i64 2), .v (.int .i64 2), .v (.int .i64 6)], 3)], [(0, (0, 0))], [(0, (0, 0)), (0, (3, 0))]⟩
set_option maxRecDepth 1000000 in
theorem dk_66 : Deep Tryz.prog (lets0 fun _ => 0) d_66 := deep_nowT tabk_2 (by kernel_rfl)
def d_67 : DRow := ⟨8, [.one (.sl 0 0 2 2), .one (.v (.int .i64 9)), .one (.v (.int .i64 2)), .one (.v (.slice none 0 0))], [([.v (.int .i64 2), .v (.int .i64 2)], 3)], .tup [.agg [.v (.slice none 0 0), .v (.slice none 0 0), .v (.int .i64 0)], .one (.v (.int .i64 9))], [], [], [(0, (0, 0))]⟩
set_option maxRecDepth 1000000 in
theorem dk_67 : Deep Tryz.prog (lets0 fun _ => 0) d_67 := deep_nowT tabk_2 (by kernel_rfl)
def d_68 : DRow := ⟨8, [.one (.sl 0 0 2 2), .one (.v (.int .i64 9)), .one (.v (.int .i64 2)), .one (.sl 1 0 2 2)], [([.v (.int .i64 10), .v (.int .i64 0)], 3), ([.v (.int .i64 8), .v (.int .i64 0)], 3)], .tup [.agg [.v (.slice none 0 0), .v (.slice none 0 0), .v (.int .i64 0)], .one (.v (.int .i64 9))], [], [], [(0, (0, 0)), (0, (3, 0))]⟩
set_option maxRecDepth 1000000 in
theorem dk_68 : Deep Tryz.prog (lets0 fun _ => 0) d_68 := deep_nowT tabk_2 (by kernel_rfl)
def d_69 : DRow := ⟨8, [.one (.sl 0 0 2 2), .one (.v (.int .i64 1000)), .one (.v (.int .i64 1)), .one (.v (.slice none 0 0))], [([.v (.int .i64 1000000000), .v (.int .i64 1000000000)], 3)], .tup [.agg [.sl 1 0 2 2, .v (.slice none 0 0), .v (.int .i64 0)], .one (.v (.int .i64 0))], [([.v (.int .i64 500), .v (.int .i64 500)], 3)], [(0, (0, 0))], [(0, (0, 0))]⟩
set_option maxRecDepth 1000000 in
theorem dk_69 : Deep Tryz.prog (lets0 fun _ => 0) d_69 := deep_nowT tabk_2 (by kernel_rfl)
def d_70 : DRow := ⟨8, [.one (.sl 0 0 1 1), .one (.v (.int .i64 1000)), .one (.v (.int .i64 1)), .one (.sl 1 0 1 1)], [([.v (.int .i64 1)], 3), ([.v (.int .i64 1000)], 3)], .tup [.agg [.sl 2 0 1 1, .v (.slice none 0 0), .v (.int .i64 0)], .one (.v (.int .i64 0))], [([.v (.int .i64 1000)], 3)], [(0, (0, 0))], [(0, (0, 0)), (0, (3, 0))]⟩
set_option maxRecDepth 1000000 in
theorem dk_70 : Deep Tryz.prog (lets0 fun _ => 0) d_70 := deep_nowT tabk_2 (by kernel_rfl)
def d_71 : DRow := ⟨10, [.one (.sl 0 0 2 2), .one (.v (.int .i64 4)), .one (.v (.int .i64 1)), .one (.v (.slice none 0 0)), .agg [.sl 1 0 2 2, .v (.slice none 0 0), .v (.int .i64 0)]], [([.v (.int .i64 7), .v (.int .i64 3)], 3), ([.v (.int .i64 3), .v (.int .i64 1)], 3)], .s (.one (.v (.bool true))), [], [], [(0, (0, 0)), (0, (4, 0))]⟩
set_option maxRecDepth 1000000 in
theorem dk_71 : Deep Tryz.prog (lets0 fun _ => 0) d_71 := deep_nowT tabk_2 (by kernel_rfl)
def d_72 : DRow := ⟨10, [.one (.sl 0 0 4 4), .one (.v (.int .i64 5)), .one (.v (.int .i64 1)), .one (.v (.slice none 0 0)), .agg [.sl 1 0 4 4, .sl 2 0 4 4, .v (.int .i64 2)]], [([.v (.int .i64 5), .v (.int .i64 3), .v (.int .i64 1), .v (.int .i64 1)], 3), ([.v (.int .i64 2), .v (.int .i64 1), .v (.int .i64 0), .v (.int .i64 0)], 3), ([.v (.int .i64 0), .v (.int .i64 1), .v (.int .i64 2), .v (.int .i64 3)], 3)], .s (.one (.v (.bool true))), [], [], [(0, (0, 0)), (0, (4, 0)), (0, (4, 1))]⟩
set_option maxRecDepth 1000000 in
theorem dk_72 : Deep Tryz.prog (lets0 fun _ => 0) d_72 := deep_nowT tabk_2 (by kernel_rfl)
def ds_2e : List DRow := [d_61, d_62, d_63, d_64, d_65, d_66, d_67, d_68, d_69, d_70, d_71, d_72]
theorem ds_2e_k : ∀ d ∈ ds_2e, Deep Tryz.prog (lets0 fun _ => 0) d := List.forall_mem_cons.2 ⟨dk_61, List.forall_mem_cons.2 ⟨dk_62, List.forall_mem_cons.2 ⟨dk_63, List.forall_mem_cons.2 ⟨dk_64, List.forall_mem_cons.2 ⟨dk_65, List.forall_mem_cons.2 ⟨dk_66, List.forall_mem_cons.2 ⟨dk_67, List.forall_mem_cons.2 ⟨dk_68, List.forall_mem_cons.2 ⟨dk_69, List.forall_mem_cons.2 ⟨dk_70, List.forall_mem_cons.2 ⟨dk_71, List.forall_mem_cons.2 ⟨dk_72, (fun _ h => by cases h)⟩⟩⟩⟩⟩⟩⟩⟩⟩⟩⟩⟩
end Go.Proofs.YtjjibclfmknblabGreat.Y
