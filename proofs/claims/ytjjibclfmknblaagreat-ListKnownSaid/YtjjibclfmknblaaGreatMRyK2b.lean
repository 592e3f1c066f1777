/-
  Calls that are known, each by one run.
-/
import Derived.Test.YtjjibclfmknblaaGreatMRyK2
set_option linter.all false
namespace Go.Proofs.YtjjibclfmknblaaGreat.Y
open Go Go.Ry Go.RowKit
def d_26 : DRow := ⟨9, [.one (.sl 0 0 4 4), .agg [.v (.int .i64 16), .v (.int .i64 10), .v (.int .i64 1000), .v (.int .i64 0), .v (.int .i64 0)]], [([.v (.int .i64 50), .v (.int .i64 0), .v (.int .i64 30), .v (.int .i64 1), .v (.int .i64 15), .v (.int .i64 1), .v (.int .i64 5), .v (.int .i64 0)], 29)], .tup [.agg [.v (.slice none 0 0), .v (.slice none 0 0), .v (.int .i64 0)], .one (.v (.int .i64 2))], [], [], [(0, (0, 0))]⟩
set_option maxRecDepth 1000000 in
theorem dk_26 : Deep Tryz.prog (lets0 fun _ => 0) d_26 := deep_nowT tabk_2 (by kernel_rfl)
def d_27 : DRow := ⟨9, [.one (.sl 0 0 4 4), .agg [.v (.int .i64 14), .v (.int .i64 0), .v (.int .i64 1000), .v (.int .i64 0), .v (.int .i64 0)]], [([.v (.int .i64 50), .v (.int .i64 0), .v (.int .i64 30), .v (.int .i64 1), .v (.int .i64 15), .v (.int .i64 1), .v (.int .i64 5), .v (.int .i64 0)], 29)], .tup [.agg [.v (.slice none 0 0), .v (.slice none 0 0), .v (.int .i64 0)], .one (.v (.int .i64 2))], [], [], [(0, (0, 0))]⟩
set_option maxRecDepth 1000000 in
theorem dk_27 : Deep Tryz.prog (lets0 fun _ => 0) d_27 := deep_nowT tabk_2 (by kernel_rfl)
def d_28 : DRow := ⟨9, [.one (.sl 0 0 4 4), .agg [.v (.int .i64 14), .v (.int .i64 1001), .v (.int .i64 1000), .v (.int .i64 0), .v (.int .i64 0)]], [([.v (.int .i64 50), .v (.int .i64 0), .v (.int .i64 30), .v (.int .i64 1), .v (.int .i64 15), .v (.int .i64 1), .v (.int .i64 5), .v (.int .i64 0)], 29)], .tup [.agg [.v (.slice none 0 0), .v (.slice none 0 0), .v (.int .i64 0)], .one (.v (.int .i64 2))], [], [], [(0, (0, 0))]⟩
set_option maxRecDepth 1000000 in
theorem dk_28 : Deep Tryz.prog (lets0 fun _ => 0) d_28 := deep_nowT tabk_2 (by kernel_rfl)
def d_29 : DRow := ⟨9, [.one (.sl 0 0 4 4), .agg [.v (.int .i64 14), .v (.int .i64 10), .v (.int .i64 (-1)), .v (.int .i64 0), .v (.int .i64 0)]], [([.v (.int .i64 50), .v (.int .i64 0), .v (.int .i64 30), .v (.int .i64 1), .v (.int .i64 15), .v (.int .i64 1), .v (.int .i64 5), .v (.int .i64 0)], 29)], .tup [.agg [.v (.slice none 0 0), .v (.slice none 0 0), .v (.int .i64 0)], .one (.v (.int .i64 2))], [], [], [(0, (0, 0))]⟩
set_option maxRecDepth 1000000 in
theorem dk_29 : Deep Tryz.prog (lets0 fun _ => 0) d_29 := deep_nowT tabk_2 (by kernel_rfl)
def d_30 : DRow := ⟨9, [.one (.sl 0 0 4 4), .agg [.v (.int .i64 14), .v (.int .i64 10), .v (.int .i64 10001), .v (.int .i64 0), .v (.int .i64 0)]], [([.v (.int .i64 50), .v (.int .i64 0), .v (.int .i64 30), .v (.int .i64 1), .v (.int .i64 15), .v (.int .i64 1), .v (.int .i64 5), .v (.int .i64 0)], 29)], .tup [.agg [.v (.slice none 0 0), .v (.slice none 0 0), .v (.int .i64 0)], .one (.v (.int .i64 2))], [], [], [(0, (0, 0))]⟩
set_option maxRecDepth 1000000 in
theorem dk_30 : Deep Tryz.prog (lets0 fun _ => 0) d_30 := deep_nowT tabk_2 (by kernel_rfl)
def d_31 : DRow := ⟨9, [.one (.sl 0 0 4 4), .agg [.v (.int .i64 14), .v (.int .i64 10), .v (.int .i64 1000), .v (.int .i64 (-1)), .v (.int .i64 0)]], [([.v (.int .i64 50), .v (.int .i64 0), .v (.int .i64 30), .v (.int .i64 1), .v (.int .i64 15), .v (.int .i64 1), .v (.int .i64 5), .v (.int .i64 0)], 29)], .tup [.agg [.v (.slice none 0 0), .v (.slice none 0 0), .v (.int .i64 0)], .one (.v (.int .i64 2))], [], [], [(0, (0, 0))]⟩
set_option maxRecDepth 1000000 in
theorem dk_31 : Deep Tryz.prog (lets0 fun _ => 0) d_31 := deep_nowT tabk_2 (by kernel_rfl)
def d_32 : DRow := ⟨9, [.one (.sl 0 0 4 4), .agg [.v (.int .i64 14), .v (.int .i64 10), .v (.int .i64 1000), .v (.int .i64 10001), .v (.int .i64 0)]], [([.v (.int .i64 50), .v (.int .i64 0), .v (.int .i64 30), .v (.int .i64 1), .v (.int .i64 15), .v (.int .i64 1), .v (.int .i64 5), .v (.int .i64 0)], 29)], .tup [.agg [.v (.slice none 0 0), .v (.slice none 0 0), .v (.int .i64 0)], .one (.v (.int .i64 2))], [], [], [(0, (0, 0))]⟩
set_option maxRecDepth 1000000 in
theorem dk_32 : Deep Tryz.prog (lets0 fun _ => 0) d_32 := deep_nowT tabk_2 (by kernel_rfl)
def d_33 : DRow := ⟨9, [.one (.sl 0 0 4 4), .agg [.v (.int .i64 14), .v (.int .i64 10), .v (.int .i64 1000), .v (.int .i64 0), .v (.int .i64 (-1))]], [([.v (.int .i64 50), .v (.int .i64 0), .v (.int .i64 30), .v (.int .i64 1), .v (.int .i64 15), .v (.int .i64 1), .v (.int .i64 5), .v (.int .i64 0)], 29)], .tup [.agg [.v (.slice none 0 0), .v (.slice none 0 0), .v (.int .i64 0)], .one (.v (.int .i64 2))], [], [], [(0, (0, 0))]⟩
set_option maxRecDepth 1000000 in
theorem dk_33 : Deep Tryz.prog (lets0 fun _ => 0) d_33 := deep_nowT tabk_2 (by kernel_rfl)
def d_34 : DRow := ⟨9, [.one (.sl 0 0 4 4), .agg [.v (.int .i64 14), .v (.int .i64 10), .v (.int .i64 1000), .v (.int .i64 0), .v (.int .i64 11)]], [([.v (.int .i64 50), .v (.int .i64 0), .v (.int .i64 30), .v (.int .i64 1), .v (.int .i64 15), .v (.int .i64 1), .v (.int .i64 5), .v (.int .i64 0)], 29)], .tup [.agg [.v (.slice none 0 0), .v (.slice none 0 0), .v (.int .i64 0)], .one (.v (.int .i64 2))], [], [], [(0, (0, 0))]⟩
set_option maxRecDepth 1000000 in
theorem dk_34 : Deep Tryz.prog (lets0 fun _ => 0) d_34 := deep_nowT tabk_2 (by kernel_rfl)
def d_35 : DRow := ⟨9, [.one (.sl 0 0 2 2), .agg [.v (.int .i64 14), .v (.int .i64 4), .v (.int .i64 0), .v (.int .i64 0), .v (.int .i64 4)]], [([.v (.int .i64 5), .v (.int .i64 0), .v (.int .i64 5), .v (.int .i64 0)], 29)], .tup [.agg [.v (.slice none 0 0), .v (.slice none 0 0), .v (.int .i64 0)], .one (.v (.int .i64 8))], [], [], [(0, (0, 0))]⟩
set_option maxRecDepth 1000000 in
theorem dk_35 : Deep Tryz.prog (lets0 fun _ => 0) d_35 := deep_nowT tabk_2 (by kernel_rfl)
def d_36 : DRow := ⟨9, [.one (.sl 0 0 3 3), .agg [.v (.int .i64 14), .v (.int .i64 4), .v (.int .i64 0), .v (.int .i64 0), .v (.int .i64 4)]], [([.v (.int .i64 5), .v (.int .i64 7), .v (.int .i64 4), .v (.int .i64 0), .v (.int .i64 5), .v (.int .i64 7)], 29)], .tup [.agg [.sl 1 0 2 2, .v (.slice none 0 0), .v (.int .i64 0)], .one (.v (.int .i64 0))], [([.v (.int .i64 4), .v (.int .i64 0)], 3)], [(0, (0, 0))], [(0, (0, 0))]⟩
set_option maxRecDepth 1000000 in
theorem dk_36 : Deep Tryz.prog (lets0 fun _ => 0) d_36 := deep_nowT tabk_2 (by kernel_rfl)
def d_37 : DRow := ⟨10, [.one (.sl 0 0 4 4), .agg [.v (.int .i64 14), .v (.int .i64 10), .v (.int .i64 1000), .v (.int .i64 0), .v (.int .i64 0)]], [([.v (.int .i64 50), .v (.int .i64 0), .v (.int .i64 30), .v (.int .i64 1), .v (.int .i64 15), .v (.int .i64 1), .v (.int .i64 5), .v (.int .i64 0)], 29)], .tup [.one (.sl 1 0 4 4), .one (.v (.int .i64 0))], [([.v (.int .i64 5), .v (.int .i64 3), .v (.int .i64 2), .v (.int .i64 0)], 3)], [(0, (0, 0))], [(0, (0, 0))]⟩
set_option maxRecDepth 1000000 in
theorem dk_37 : Deep Tryz.prog (lets0 fun _ => 0) d_37 := deep_nowT tabk_2 (by kernel_rfl)
def ds_2b : List DRow := [d_26, d_27, d_28, d_29, d_30, d_31, d_32, d_33, d_34, d_35, d_36, d_37]
theorem ds_2b_k : ∀ d ∈ ds_2b, Deep Tryz.prog (lets0 fun _ => 0) d := List.forall_mem_cons.2 ⟨dk_26, List.forall_mem_cons.2 ⟨dk_27, List.forall_mem_cons.2 ⟨dk_28, List.forall_mem_cons.2 ⟨dk_29, List.forall_mem_cons.2 ⟨dk_30, List.forall_mem_cons.2 ⟨dk_31, List.forall_mem_cons.2 ⟨dk_32, List.forall_mem_cons.2 ⟨dk_33, List.forall_mem_cons.2 ⟨dk_34, List.forall_mem_cons.2 ⟨dk_35, List.forall_mem_cons.2 ⟨dk_36, List.forall_mem_cons.2 ⟨dk_37, (fun _ h => by cases h)⟩⟩⟩⟩⟩⟩⟩⟩⟩⟩⟩⟩
end Go.Proofs.YtjjibclfmknblaaGreat.Y
