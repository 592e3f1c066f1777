/-
  Calls that are known, each by one run.
-/
import Derived.Test.YtjjibclfmknblaaGreatMRyK2
set_option linter.all false
namespace Go.Proofs.YtjjibclfmknblaaGreat.Y
open Go Go.Ry Go.RowKit
def d_50 : DRow := ⟨10, [.one (.sl 0 0 4 4), .agg [.v (.int .i64 14), .v (.int .i64 1001), .v (.int .i64 1000), .v (.int .i64 0), .v (.int .i64 0)]], [([.v (.int .i64 50), .v (.int .i64 0), .v (.int .i64 30), .v (.int .i64 1), .v (.int .i64 15), .v (.int .i64 1), .v (.int .i64 5), .v (.int .i64 0)], 29)], .tup [.one (.v (.slice none 0 0)), .one (.v (.int .i64 2))], [], [], [(0, (0, 0))]⟩
set_option maxRecDepth 1000000 in
theorem dk_50 : Deep Tryz.prog (lets0 fun _ => 0) d_50 := deep_nowT tabk_2 (by kernel_rfl)
def d_51 : DRow := ⟨10, [.one (.sl 0 0 4 4), .agg [.v (.int .i64 14), .v (.int .i64 10), .v (.int .i64 (-1)), .v (.int .i64 0), .v (.int .i64 0)]], [([.v (.int .i64 50), .v (.int .i64 0), .v (.int .i64 30), .v (.int .i64 1), .v (.int .i64 15), .v (.int .i64 1), .v (.int .i64 5), .v (.int .i64 0)], 29)], .tup [.one (.v (.slice none 0 0)), .one (.v (.int .i64 2))], [], [], [(0, (0, 0))]⟩
set_option maxRecDepth 1000000 in
theorem dk_51 : Deep Tryz.prog (lets0 fun _ => 0) d_51 := deep_nowT tabk_2 (by kernel_rfl)
def d_52 : DRow := ⟨10, [.one (.sl 0 0 4 4), .agg [.v (.int .i64 14), .v (.int .i64 10), .v (.int .i64 10001), .v (.int .i64 0), .v (.int .i64 0)]], [([.v (.int .i64 50), .v (.int .i64 0), .v (.int .i64 30), .v (.int .i64 1), .v (.int .i64 15), .v (.int .i64 1), .v (.int .i64 5), .v (.int .i64 0)], 29)], .tup [.one (.v (.slice none 0 0)), .one (.v (.int .i64 2))], [], [], [(0, (0, 0))]⟩
set_option maxRecDepth 1000000 in
theorem dk_52 : Deep Tryz.prog (lets0 fun _ => 0) d_52 := deep_nowT tabk_2 (by kernel_rfl)
def d_53 : DRow := ⟨10, [.one (.sl 0 0 4 4), .agg [.v (.int .i64 14), .v (.int .i64 10), .v (.int .i64 1000), .v (.int .i64 (-1)), .v (.int .i64 0)]], [([.v (.int .i64 50), .v (.int .i64 0), .v (.int .i64 30), .v (.int .i64 1), .v (.int .i64 15), .v (.int .i64 1), .v (.int .i64 5), .v (.int .i64 0)], 29)], .tup [.one (.v (.slice none 0 0)), .one (.v (.int .i64 2))], [], [], [(0, (0, 0))]⟩
set_option maxRecDepth 1000000 in
theorem dk_53 : Deep Tryz.prog (lets0 fun _ => 0) d_53 := deep_nowT tabk_2 (by kernel_rfl)
def d_54 : DRow := ⟨10, [.one (.sl 0 0 4 4), .agg [.v (.int .i64 14), .v (.int .i64 10), .v (.int .i64 1000), .v (.int .i64 10001), .v (.int .i64 0)]], [([.v (.int .i64 50), .v (.int .i64 0), .v (.int .i64 30), .v (.int .i64 1), .v (.int .i64 15), .v (.int .i64 1), .v (.int .i64 5), .v (.int .i64 0)], 29)], .tup [.one (.v (.slice none 0 0)), .one (.v (.int .i64 2))], [], [], [(0, (0, 0))]⟩
set_option maxRecDepth 1000000 in
theorem dk_54 : Deep Tryz.prog (lets0 fun _ => 0) d_54 := deep_nowT tabk_2 (by kernel_rfl)
def d_55 : DRow := ⟨10, [.one (.sl 0 0 4 4), .agg [.v (.int .i64 14), .v (.int .i64 10), .v (.int .i64 1000), .v (.int .i64 0), .v (.int .i64 (-1))]], [([.v (.int .i64 50), .v (.int .i64 0), .v (.int .i64 30), .v (.int .i64 1), .v (.int .i64 15), .v (.int .i64 1), .v (.int .i64 5), .v (.int .i64 0)], 29)], .tup [.one (.v (.slice none 0 0)), .one (.v (.int .i64 2))], [], [], [(0, (0, 0))]⟩
set_option maxRecDepth 1000000 in
theorem dk_55 : Deep Tryz.prog (lets0 fun _ => 0) d_55 := deep_nowT tabk_2 (by kernel_rfl)
def d_56 : DRow := ⟨10, [.one (.sl 0 0 4 4), .agg [.v (.int .i64 14), .v (.int .i64 10), .v (.int .i64 1000), .v (.int .i64 0), .v (.int .i64 11)]], [([.v (.int .i64 50), .v (.int .i64 0), .v (.int .i64 30), .v (.int .i64 1), .v (.int .i64 15), .v (.int .i64 1), .v (.int .i64 5), .v (.int .i64 0)], 29)], .tup [.one (.v (.slice none 0 0)), .one (.v (.int .i64 2))], [], [], [(0, (0, 0))]⟩
set_option maxRecDepth 1000000 in
theorem dk_56 : Deep Tryz.prog (lets0 fun _ => 0) d_56 := deep_nowT tabk_2 (by kernel_rfl)
def d_57 : DRow := ⟨10, [.one (.sl 0 0 4 4), .agg [.v (.int .i64 14), .v (.int .i64 10), .v (.int .i64 0), .v (.int .i64 0), .v (.int .i64 0)]], [([.v (.int .i64 50), .v (.int .i64 0), .v (.int .i64 30), .v (.int .i64 1), .v (.int .i64 15), .v (.int .i64 1), .v (.int .i64 5), .v (.int .i64 0)], 29)], .tup [.one (.v (.slice none 0 0)), .one (.v (.int .i64 8))], [], [], [(0, (0, 0))]⟩
set_option maxRecDepth 1000000 in
theorem dk_57 : Deep Tryz.prog (lets0 fun _ => 0) d_57 := deep_nowT tabk_2 (by kernel_rfl)
def d_58 : DRow := ⟨10, [.one (.sl 0 0 4 4), .agg [.v (.int .i64 14), .v (.int .i64 10), .v (.int .i64 6000), .v (.int .i64 6000), .v (.int .i64 0)]], [([.v (.int .i64 50), .v (.int .i64 0), .v (.int .i64 30), .v (.int .i64 1), .v (.int .i64 15), .v (.int .i64 1), .v (.int .i64 5), .v (.int .i64 0)], 29)], .tup [.one (.v (.slice none 0 0)), .one (.v (.int .i64 4))], [], [], [(0, (0, 0))]⟩
set_option maxRecDepth 1000000 in
theorem dk_58 : Deep Tryz.prog (lets0 fun _ => 0) d_58 := deep_nowT tabk_2 (by kernel_rfl)
def d_59 : DRow := ⟨10, [.one (.sl 0 0 4 4), .agg [.v (.int .i64 14), .v (.int .i64 10), .v (.int .i64 1000), .v (.int .i64 0), .v (.int .i64 4)]], [([.v (.int .i64 50), .v (.int .i64 0), .v (.int .i64 30), .v (.int .i64 1), .v (.int .i64 15), .v (.int .i64 1), .v (.int .i64 5), .v (.int .i64 0)], 29)], .tup [.one (.sl 1 0 4 4), .one (.v (.int .i64 0))], [([.v (.int .i64 7), .v (.int .i64 2), .v (.int .i64 1), .v (.int .i64 0)], 3)], [(0, (0, 0))], [(0, (0, 0))]⟩
set_option maxRecDepth 1000000 in
theorem dk_59 : Deep Tryz.prog (lets0 fun _ => 0) d_59 := deep_nowT tabk_2 (by kernel_rfl)
def d_60 : DRow := ⟨10, [.one (.sl 0 0 2 2), .agg [.v (.int .i64 14), .v (.int .i64 1), .v (.int .i64 0), .v (.int .i64 0), .v (.int .i64 0)]], [([.v (.int .i64 5), .v (.int .i64 0), .v (.int .i64 5), .v (.int .i64 0)], 29)], .tup [.one (.v (.slice none 0 0)), .one (.v (.int .i64 8))], [], [], [(0, (0, 0))]⟩
set_option maxRecDepth 1000000 in
theorem dk_60 : Deep Tryz.prog (lets0 fun _ => 0) d_60 := deep_nowT tabk_2 (by kernel_rfl)
def d_61 : DRow := ⟨10, [.one (.sl 0 0 2 2), .agg [.v (.int .i64 4), .v (.int .i64 2), .v (.int .i64 0), .v (.int .i64 0), .v (.int .i64 0)]], [([.v (.int .i64 5), .v (.int .i64 0), .v (.int .i64 5), .v (.int .i64 0)], 29)], .tup [.one (.v (.slice none 0 0)), .one (.v (.int .i64 9))], [], [], [(0, (0, 0))]⟩
set_option maxRecDepth 1000000 in
theorem dk_61 : Deep Tryz.prog (lets0 fun _ => 0) d_61 := deep_nowT tabk_2 (by kernel_rfl)
def ds_2d : List DRow := [d_50, d_51, d_52, d_53, d_54, d_55, d_56, d_57, d_58, d_59, d_60, d_61]
theorem ds_2d_k : ∀ d ∈ ds_2d, Deep Tryz.prog (lets0 fun _ => 0) d := List.forall_mem_cons.2 ⟨dk_50, List.forall_mem_cons.2 ⟨dk_51, List.forall_mem_cons.2 ⟨dk_52, List.forall_mem_cons.2 ⟨dk_53, List.forall_mem_cons.2 ⟨dk_54, List.forall_mem_cons.2 ⟨dk_55, List.forall_mem_cons.2 ⟨dk_56, List.forall_mem_cons.2 ⟨dk_57, List.forall_mem_cons.2 ⟨dk_58, List.forall_mem_cons.2 ⟨dk_59, List.forall_mem_cons.2 ⟨dk_60, List.forall_mem_cons.2 ⟨dk_61, (fun _ h => by cases h)⟩⟩⟩⟩⟩⟩⟩⟩⟩⟩⟩⟩
end Go.Proofs.YtjjibclfmknblaaGreat.Y
