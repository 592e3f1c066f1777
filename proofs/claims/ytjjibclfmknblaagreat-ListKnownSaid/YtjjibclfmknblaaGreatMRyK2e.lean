/-
  Calls that are known, each by one run.
-/
import Derived.Test.YtjjibclfmknblaaGreatMRyK2
set_option linter.all false
namespace Go.Proofs.YtjjibclfmknblaaGreat.Y
open Go Go.Ry Go.RowKit
def d_62 : DRow := ⟨10, [.one (.sl 0 0 3 3), .agg [.v (.int .i64 14), .v (.int .i64 1), .v (.int .i64 0), .v (.int .i64 0), .v (.int .i64 0)]], [([.v (.int .i64 5), .v (.int .i64 7), .v (.int .i64 4), .v (.int .i64 0), .v (.int .i64 5), .v (.int .i64 7)], 29)], .tup [.one (.v (.slice none 0 0)), .one (.v (.int .i64 8))], [], [], [(0, (0, 0))]⟩
set_option maxRecDepth 1000000 in
theorem dk_62 : Deep Tryz.prog (lets0 fun _ => 0) d_62 := deep_nowT tabk_2 (by kernel_rfl)
def d_63 : DRow := ⟨10, [.one (.sl 0 0 3 3), .agg [.v (.int .i64 3), .v (.int .i64 3), .v (.int .i64 1001), .v (.int .i64 9000), .v (.int .i64 0)]], [([.v (.int .i64 6), .v (.int .i64 1), .v (.int .i64 3), .v (.int .i64 1), .v (.int .i64 1), .v (.int .i64 0)], 29)], .tup [.one (.v (.slice none 0 0)), .one (.v (.int .i64 9))], [], [], [(0, (0, 0))]⟩
set_option maxRecDepth 1000000 in
theorem dk_63 : Deep Tryz.prog (lets0 fun _ => 0) d_63 := deep_nowT tabk_2 (by kernel_rfl)
def d_64 : DRow := ⟨10, [.one (.sl 0 0 2 2), .agg [.v (.int .i64 11), .v (.int .i64 2), .v (.int .i64 1000), .v (.int .i64 0), .v (.int .i64 0)]], [([.v (.int .i64 9), .v (.int .i64 0), .v (.int .i64 1), .v (.int .i64 0)], 29)], .tup [.one (.sl 1 0 2 2), .one (.v (.int .i64 0))], [([.v (.int .i64 1), .v (.int .i64 1)], 3)], [(0, (0, 0))], [(0, (0, 0))]⟩
set_option maxRecDepth 1000000 in
theorem dk_64 : Deep Tryz.prog (lets0 fun _ => 0) d_64 := deep_nowT tabk_2 (by kernel_rfl)
def d_65 : DRow := ⟨10, [.one (.sl 0 0 2 2), .agg [.v (.int .i64 11), .v (.int .i64 2), .v (.int .i64 1001), .v (.int .i64 0), .v (.int .i64 0)]], [([.v (.int .i64 9), .v (.int .i64 0), .v (.int .i64 1), .v (.int .i64 0)], 29)], .tup [.one (.sl 1 0 2 2), .one (.v (.int .i64 0))], [([.v (.int .i64 2), .v (.int .i64 0)], 3)], [(0, (0, 0))], [(0, (0, 0))]⟩
set_option maxRecDepth 1000000 in
theorem dk_65 : Deep Tryz.prog (lets0 fun _ => 0) d_65 := deep_nowT tabk_2 (by kernel_rfl)
def d_66 : DRow := ⟨10, [.one (.sl 0 0 2 2), .agg [.v (.int .i64 11), .v (.int .i64 2), .v (.int .i64 1001), .v (.int .i64 1000), .v (.int .i64 0)]], [([.v (.int .i64 9), .v (.int .i64 0), .v (.int .i64 1), .v (.int .i64 12)], 29)], .tup [.one (.sl 1 0 2 2), .one (.v (.int .i64 0))], [([.v (.int .i64 1), .v (.int .i64 1)], 3)], [(0, (0, 0))], [(0, (0, 0))]⟩
set_option maxRecDepth 1000000 in
theorem dk_66 : Deep Tryz.prog (lets0 fun _ => 0) d_66 := deep_nowT tabk_2 (by kernel_rfl)
def d_67 : DRow := ⟨10, [.one (.sl 0 0 3 3), .agg [.v (.int .i64 14), .v (.int .i64 4), .v (.int .i64 0), .v (.int .i64 0), .v (.int .i64 4)]], [([.v (.int .i64 5), .v (.int .i64 7), .v (.int .i64 4), .v (.int .i64 0), .v (.int .i64 5), .v (.int .i64 7)], 29)], .tup [.one (.sl 1 0 3 3), .one (.v (.int .i64 0))], [([.v (.int .i64 2), .v (.int .i64 0), .v (.int .i64 2)], 3)], [(0, (0, 0))], [(0, (0, 0))]⟩
set_option maxRecDepth 1000000 in
theorem dk_67 : Deep Tryz.prog (lets0 fun _ => 0) d_67 := deep_nowT tabk_2 (by kernel_rfl)
def ds_2e : List DRow := [d_62, d_63, d_64, d_65, d_66, d_67]
theorem ds_2e_k : ∀ d ∈ ds_2e, Deep Tryz.prog (lets0 fun _ => 0) d := List.forall_mem_cons.2 ⟨dk_62, List.forall_mem_cons.2 ⟨dk_63, List.forall_mem_cons.2 ⟨dk_64, List.forall_mem_cons.2 ⟨dk_65, List.forall_mem_cons.2 ⟨dk_66, List.forall_mem_cons.2 ⟨dk_67, (fun _ h => by cases h)⟩⟩⟩⟩⟩⟩
end Go.Proofs.YtjjibclfmknblaaGreat.Y
