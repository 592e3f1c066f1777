/-
  Calls that are known, each by one run.
-/
import Derived.Test.YtjjibclfmknblabGreatMRyK2
set_option linter.all false
namespace Go.Proofs.YtjjibclfmknblabGreat.Y
open Go Go.Ry Go.RowKit
def d_37 : DRow := ⟨7, [.one (.slf 0 0 61 1), .one (.v (.int .i64 0)), .one (.v (.int .i64 0))], [([.v (.int .i64 0), .v (.int .i64 0), .v (.int .i64 0), .v (.int .i64 0), .v (.int .i64 0), .v (.int .i64 0), .v (.int .i64 0), .v (.int .i64 0), .v (.int .i64 0), .v (.int .i64 0), .v (.int .i64 0), .v (.int .i64 0), .v (.int .i64 0), .v (.int .i64 0), .v (.int .i64 0), .v (.int .i64 0), .v (.int .i64 0), .v (.int .i64 0), .v (.int .i64 0), .v (.int .i64 0), .v (.int .i64 0), .v (.int .i64 0), .v (.int .i64 0), .v (.int .i64 0), .v (.int .i64 0), .v (.int .i64 0), .v (.int .i64 0), .v (.int .i64 0), .v (.int .i64 0), .v (.int .i64 0), .v (.int .i64 0), .v (.int .i64 0), .v (.int .i64 0), .v (.int .i64 0), .v (.int .i64 0), .v (.int .i64 0), .v (.int .i64 0), .v (.int .i64 0), .v (.int .i64 0), .v (.int .i64 0), .v (.int .i64 0), .v (.int .i64 0), .v (.int .i64 0), .v (.int .i64 0), .v (.int .i64 0), .v (.int .i64 0), .v (.int .i64 0), .v (.int .i64 0), .v (.int .i64 0), .v (.int .i64 0), .v (.int .i64 0), .v (.int .i64 0), .v (.int .i64 0), .v (.int .i64 0), .v (.int .i64 0), .v (.int .i64 0), .v (.int .i64 0), .v (.int .i64 0), .v (.int .i64 0), .v (.int .i64 0), .v (.int .i64 1)], 3)], .tup [.one (.v (.slice none 0 0)), .one (.v (.int .i64 60))], [], [], [(0, (0, 0))]⟩
set_option maxRecDepth 1000000 in
theorem dk_37 : Deep Tryz.prog (lets0 fun _ => 0) d_37 := deep_nowT tabk_2 (by kernel_rfl)
def d_38 : DRow := ⟨7, [.one (.sl 0 0 1 1), .one (.v (.int .i64 0)), .one (.v (.int .i64 1))], [([.v (.int .i64 1)], 3)], .tup [.one (.v (.slice none 0 0)), .one (.v (.int .i64 2))], [], [], [(0, (0, 0))]⟩
set_option maxRecDepth 1000000 in
theorem dk_38 : Deep Tryz.prog (lets0 fun _ => 0) d_38 := deep_nowT tabk_2 (by kernel_rfl)
def d_39 : DRow := ⟨7, [.one (.sl 0 0 1 1), .one (.v (.int .i64 1001)), .one (.v (.int .i64 1))], [([.v (.int .i64 1)], 3)], .tup [.one (.v (.slice none 0 0)), .one (.v (.int .i64 2))], [], [], [(0, (0, 0))]⟩
set_option maxRecDepth 1000000 in
theorem dk_39 : Deep Tryz.prog (lets0 fun _ => 0) d_39 := deep_nowT tabk_2 (by kernel_rfl)
def d_40 : DRow := ⟨7, [.one (.sl 0 0 1 1), .one (.v (.int .i64 (-1))), .one (.v (.int .i64 1))], [([.v (.int .i64 1)], 3)], .tup [.one (.v (.slice none 0 0)), .one (.v (.int .i64 2))], [], [], [(0, (0, 0))]⟩
set_option maxRecDepth 1000000 in
theorem dk_40 : Deep Tryz.prog (lets0 fun _ => 0) d_40 := deep_nowT tabk_2 (by kernel_rfl)
def d_41 : DRow := ⟨7, [.one (.sl 0 0 1 1), .one (.v (.int .i64 1)), .one (.v (.int .i64 0))], [([.v (.int .i64 1)], 3)], .tup [.one (.v (.slice none 0 0)), .one (.v (.int .i64 2))], [], [], [(0, (0, 0))]⟩
set_option maxRecDepth 1000000 in
theorem dk_41 : Deep Tryz.prog (lets0 fun _ => 0) d_41 := deep_nowT tabk_2 (by kernel_rfl)
def d_42 : DRow := ⟨7, [.one (.sl 0 0 1 1), .one (.v (.int .i64 1)), .one (.v (.int .i64 5))], [([.v (.int .i64 1)], 3)], .tup [.one (.v (.slice none 0 0)), .one (.v (.int .i64 2))], [], [], [(0, (0, 0))]⟩
set_option maxRecDepth 1000000 in
theorem dk_42 : Deep Tryz.prog (lets0 fun _ => 0) d_42 := deep_nowT tabk_2 (by kernel_rfl)
def d_43 : DRow := ⟨7, [.one (.sl 0 0 1 1), .one (.v (.int .i64 1)), .one (.v (.int .i64 11))], [([.v (.int .i64 1)], 3)], .tup [.one (.v (.slice none 0 0)), .one (.v (.int .i64 2))], [], [], [(0, (0, 0))]⟩
set_option maxRecDepth 1000000 in
theorem dk_43 : Deep Tryz.prog (lets0 fun _ => 0) d_43 := deep_nowT tabk_2 (by kernel_rfl)
def d_44 : DRow := ⟨8, [.one (.sl 0 0 2 2), .one (.v (.int .i64 2)), .one (.v (.int .i64 4)), .one (.v (.slice none 0 0))], [([.v (.int .i64 1), .v (.int .i64 1)], 3)], .tup [.agg [.v (.slice none 0 0), .v (.slice none 0 0), .v (.int .i64 0)], .one (.v (.int .i64 9))], [], [], [(0, (0, 0))]⟩
set_option maxRecDepth 1000000 in
theorem dk_44 : Deep Tryz.prog (lets0 fun _ => 0) d_44 := deep_nowT tabk_2 (by kernel_rfl)
def d_45 : DRow := ⟨8, [.one (.sl 0 0 2 2), .one (.v (.int .i64 4)), .one (.v (.int .i64 1)), .one (.v (.slice none 0 0))], [([.v (.int .i64 7), .v (.int .i64 3)], 3)], .tup [.agg [.sl 1 0 2 2, .v (.slice none 0 0), .v (.int .i64 0)], .one (.v (.int .i64 0))], [([.v (.int .i64 3), .v (.int .i64 1)], 3)], [(0, (0, 0))], [(0, (0, 0))]⟩
set_option maxRecDepth 1000000 in
theorem dk_45 : Deep Tryz.prog (lets0 fun _ => 0) d_45 := deep_nowT tabk_2 (by kernel_rfl)
def d_46 : DRow := ⟨8, [.one (.sl 0 0 4 4), .one (.v (.int .i64 5)), .one (.v (.int .i64 1)), .one (.v (.slice none 0 0))], [([.v (.int .i64 5), .v (.int .i64 3), .v (.int .i64 1), .v (.int .i64 1)], 3)], .tup [.agg [.sl 1 0 4 4, .slf 2 0 4 1, .v (.int .i64 2)], .one (.v (.int .i64 0))], [([.v (.int .i64 2), .v (.int .i64 1), .v (.int .i64 0), .v (.int .i64 0)], 3), ([.v (.int .i64 0), .v (.int .i64 1), .v (.int .i64 2), .v (.int .i64 3)], 3)], [(0, (0, 0)), (0, (0, 1))], [(0, (0, 0))]⟩
set_option maxRecDepth 1000000 in
theorem dk_46 : Deep Tryz.prog (lets0 fun _ => 0) d_46 := deep_nowT tabk_2 (by kernel_rfl)
def d_47 : DRow := ⟨8, [.one (.sl 0 0 2 2), .one (.v (.int .i64 3)), .one (.v (.int .i64 1)), .one (.v (.slice none 0 0))], [([.v (.int .i64 2), .v (.int .i64 2)], 3)], .tup [.agg [.sl 1 0 2 2, .slf 2 0 2 1, .v (.int .i64 1)], .one (.v (.int .i64 0))], [([.v (.int .i64 1), .v (.int .i64 1)], 3), ([.v (.int .i64 0), .v (.int .i64 1)], 3)], [(0, (0, 0)), (0, (0, 1))], [(0, (0, 0))]⟩
set_option maxRecDepth 1000000 in
theorem dk_47 : Deep Tryz.prog (lets0 fun _ => 0) d_47 := deep_nowT tabk_2 (by kernel_rfl)
def d_48 : DRow := ⟨8, [.one (.sl 0 0 2 2), .one (.v (.int .i64 4)), .one (.v (.int .i64 1)), .one (.sl 1 0 2 2)], [([.v (.int .i64 9), .v (.int .i64 1)], 3), ([.v (.int .i64 0), .v (.int .i64 2)], 3)], .tup [.agg [.sl 2 0 2 2, .v (.slice none 0 0), .v (.int .i64 0)], .one (.v (.int .i64 0))], [([.v (.int .i64 2), .v (.int .i64 2)], 3)], [(0, (0, 0))], [(0, (0, 0)), (0, (3, 0))]⟩
set_option maxRecDepth 1000000 in
theorem dk_48 : Deep Tryz.prog (lets0 fun _ => 0) d_48 := deep_nowT tabk_2 (by kernel_rfl)
def ds_2c : List DRow := [d_37, d_38, d_39, d_40, d_41, d_42, d_43, d_44, d_45, d_46, d_47, d_48]
theorem ds_2c_k : ∀ d ∈ ds_2c, Deep Tryz.prog (lets0 fun _ => 0) d := List.forall_mem_cons.2 ⟨dk_37, List.forall_mem_cons.2 ⟨dk_38, List.forall_mem_cons.2 ⟨dk_39, List.forall_mem_cons.2 ⟨dk_40, List.forall_mem_cons.2 ⟨dk_41, List.forall_mem_cons.2 ⟨dk_42, List.forall_mem_cons.2 ⟨dk_43, List.forall_mem_cons.2 ⟨dk_44, List.forall_mem_cons.2 ⟨dk_45, List.forall_mem_cons.2 ⟨dk_46, List.forall_mem_cons.2 ⟨dk_47, List.forall_mem_cons.2 ⟨dk_48, (fun _ h => by cases h)⟩⟩⟩⟩⟩⟩⟩⟩⟩⟩⟩⟩
end Go.Proofs.YtjjibclfmknblabGreat.Y
