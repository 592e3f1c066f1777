/-
  Calls that are known, each by one run.
-/
import Derived.Test.YtjjibclfmknblabGreatMRyK2
set_option linter.all false
namespace Go.Proofs.YtjjibclfmknblabGreat.Y
open Go Go.Ry Go.RowKit
def d_73 : DRow := ⟨10, [.one (.sl 0 0 2 2), .one (.v (.int .i64 3)), .one (.v (.int .i64 1)), .one (.v (.slice none 0 0)), .agg [.sl 1 0 2 2, .sl 2 0 2 2, .v (.int .i64 1)]], [([.v (.int .i64 2), .v (.int .i64 2)], 3), ([.v (.int .i64 1), .v (.int .i64 1)], 3), ([.v (.int .i64 0), .v (.int .i64 1)], 3)], .s (.one (.v (.bool true))), [], [], [(0, (0, 0)), (0, (4, 0)), (0, (4, 1))]⟩
set_option maxRecDepth 1000000 in
theorem dk_73 : Deep Tryz.prog (lets0 fun _ => 0) d_73 := deep_nowT tabk_2 (by kernel_rfl)
def d_74 : DRow := ⟨10, [.one (.sl 0 0 2 2), .one (.v (.int .i64 4)), .one (.v (.int .i64 1)), .one (.sl 1 0 2 2), .agg [.sl 2 0 2 2, .v (.slice none 0 0), .v (.int .i64 0)]], [([.v (.int .i64 9), .v (.int .i64 1)], 3), ([.v (.int .i64 0), .v (.int .i64 2)], 3), ([.v (.int .i64 2), .v (.int .i64 2)], 3)], .s (.one (.v (.bool true))), [], [], [(0, (0, 0)), (0, (3, 0)), (0, (4, 0))]⟩
set_option maxRecDepth 1000000 in
theorem dk_74 : Deep Tryz.prog (lets0 fun _ => 0) d_74 := deep_nowT tabk_2 (by kernel_rfl)
def d_75 : DRow := ⟨10, [.one (.sl 0 0 3 3), .one (.v (.int .i64 10)), .one (.v (.int .i64 1)), .one (.sl 1 0 3 3), .agg [.sl 2 0 3 3, .v (.slice none 0 0), .v (.int .i64 0)]], [([.v (.int .i64 1), .v (.int .i64 10), .v (.int .i64 39)], 3), ([.v (.int .i64 2), .v (.int .i64 2), .v (.int .i64 0)], 3), ([.v (.int .i64 2), .v (.int .i64 2), .v (.int .i64 6)], 3)], .s (.one (.v (.bool true))), [], [], [(0, (0, 0)), (0, (3, 0)), (0, (4, 0))]⟩
set_option maxRecDepth 1000000 in
theorem dk_75 : Deep Tryz.prog (lets0 fun _ => 0) d_75 := deep_nowT tabk_2 (by kernel_rfl)
def d_76 : DRow := ⟨10, [.one (.sl 0 0 2 2), .one (.v (.int .i64 1000)), .one (.v (.int .i64 1)), .one (.v (.slice none 0 0)), .agg [.sl 1 0 2 2, .v (.slice none 0 0), .v (.int .i64 0)]], [([.v (.int .i64 1000000000), .v (.int .i64 1000000000)], 3), ([.v (.int .i64 500), .v (.int .i64 500)], 3)], .s (.one (.v (.bool true))), [], [], [(0, (0, 0)), (0, (4, 0))]⟩
set_option maxRecDepth 1000000 in
theorem dk_76 : Deep Tryz.prog (lets0 fun _ => 0) d_76 := deep_nowT tabk_2 (by kernel_rfl)
def d_77 : DRow := ⟨10, [.one (.sl 0 0 1 1), .one (.v (.int .i64 1000)), .one (.v (.int .i64 1)), .one (.sl 1 0 1 1), .agg [.sl 2 0 1 1, .v (.slice none 0 0), .v (.int .i64 0)]], [([.v (.int .i64 1)], 3), ([.v (.int .i64 1000)], 3), ([.v (.int .i64 1000)], 3)], .s (.one (.v (.bool true))), [], [], [(0, (0, 0)), (0, (3, 0)), (0, (4, 0))]⟩
set_option maxRecDepth 1000000 in
theorem dk_77 : Deep Tryz.prog (lets0 fun _ => 0) d_77 := deep_nowT tabk_2 (by kernel_rfl)
def d_78 : DRow := ⟨11, [.agg [.sl 0 0 2 2, .sl 1 0 2 2, .v (.int .i64 1)], .one (.sl 2 0 2 2)], [([.v (.int .i64 1), .v (.int .i64 1)], 3), ([.v (.int .i64 0), .v (.int .i64 1)], 3), ([.v (.int .i64 1), .v (.int .i64 0)], 3)], .tup [.one (.slf 3 0 2 1), .one (.v (.int .i64 0))], [([.v (.int .i64 1), .v (.int .i64 2)], 3)], [(0, (0, 0))], [(0, (0, 0)), (0, (0, 1)), (0, (1, 0))]⟩
set_option maxRecDepth 1000000 in
theorem dk_78 : Deep Tryz.prog (lets0 fun _ => 0) d_78 := deep_nowT tabk_2 (by kernel_rfl)
def r_79 : Row := ⟨11, [.agg [.v (.slice none 0 0), .v (.slice none 0 0), .v (.int .i64 0)], .one (.v (.slice none 0 0))], .tup [.one (.v (.slice none 0 0)), .one (.v (.int .i64 2))]⟩
set_option maxRecDepth 1000000 in
theorem k_79 : Known Tryz.prog r_79.f r_79.l r_79.v := row_nowT tabk_2 (by kernel_rfl)
def d_80 : DRow := ⟨11, [.agg [.sl 0 0 1 1, .v (.slice none 0 0), .v (.int .i64 1)], .one (.sl 1 0 1 1)], [([.v (.int .i64 1)], 3), ([.v (.int .i64 0)], 3)], .tup [.one (.v (.slice none 0 0)), .one (.v (.int .i64 2))], [], [], [(0, (0, 0)), (0, (1, 0))]⟩
set_option maxRecDepth 1000000 in
theorem dk_80 : Deep Tryz.prog (lets0 fun _ => 0) d_80 := deep_nowT tabk_2 (by kernel_rfl)
def d_81 : DRow := ⟨11, [.agg [.sl 0 0 2 2, .sl 1 0 2 2, .v (.int .i64 2)], .one (.sl 2 0 2 2)], [([.v (.int .i64 1), .v (.int .i64 1)], 3), ([.v (.int .i64 0), .v (.int .i64 1)], 3), ([.v (.int .i64 0), .v (.int .i64 1)], 3)], .tup [.one (.v (.slice none 0 0)), .one (.v (.int .i64 2))], [], [], [(0, (0, 0)), (0, (0, 1)), (0, (1, 0))]⟩
set_option maxRecDepth 1000000 in
theorem dk_81 : Deep Tryz.prog (lets0 fun _ => 0) d_81 := deep_nowT tabk_2 (by kernel_rfl)
def d_82 : DRow := ⟨11, [.agg [.sl 0 0 2 2, .sl 1 0 2 2, .v (.int .i64 1)], .one (.sl 2 0 2 2)], [([.v (.int .i64 1), .v (.int .i64 1)], 3), ([.v (.int .i64 1), .v (.int .i64 0)], 3), ([.v (.int .i64 0), .v (.int .i64 1)], 3)], .tup [.one (.v (.slice none 0 0)), .one (.v (.int .i64 2))], [], [], [(0, (0, 0)), (0, (0, 1)), (0, (1, 0))]⟩
set_option maxRecDepth 1000000 in
theorem dk_82 : Deep Tryz.prog (lets0 fun _ => 0) d_82 := deep_nowT tabk_2 (by kernel_rfl)
def d_83 : DRow := ⟨11, [.agg [.sl 0 0 2 2, .sl 1 0 2 2, .v (.int .i64 1)], .one (.sl 2 0 2 2)], [([.v (.int .i64 1), .v (.int .i64 1)], 3), ([.v (.int .i64 0), .v (.int .i64 1)], 3), ([.v (.int .i64 0), .v (.int .i64 2)], 3)], .tup [.one (.v (.slice none 0 0)), .one (.v (.int .i64 2))], [], [], [(0, (0, 0)), (0, (0, 1)), (0, (1, 0))]⟩
set_option maxRecDepth 1000000 in
theorem dk_83 : Deep Tryz.prog (lets0 fun _ => 0) d_83 := deep_nowT tabk_2 (by kernel_rfl)
def d_84 : DRow := ⟨11, [.agg [.sl 0 0 3 3, .sl 1 0 2 2, .v (.int .i64 1)], .one (.sl 2 0 1 1)], [([.v (.int .i64 1), .v (.int .i64 1), .v (.int .i64 0)], 3), ([.v (.int .i64 0), .v (.int .i64 1)], 3), ([.v (.int .i64 2)], 3)], .tup [.one (.v (.slice none 0 0)), .one (.v (.int .i64 4))], [], [], [(0, (0, 0)), (0, (0, 1)), (0, (1, 0))]⟩
set_option maxRecDepth 1000000 in
theorem dk_84 : Deep Tryz.prog (lets0 fun _ => 0) d_84 := deep_nowT tabk_2 (by kernel_rfl)
def rs_2f : List Row := [r_79]
theorem rs_2f_k : ∀ r ∈ rs_2f, Known Tryz.prog r.f r.l r.v := List.forall_mem_cons.2 ⟨k_79, (fun _ h => by cases h)⟩
def ds_2f : List DRow := [d_73, d_74, d_75, d_76, d_77, d_78, d_80, d_81, d_82, d_83, d_84]
theorem ds_2f_k : ∀ d ∈ ds_2f, Deep Tryz.prog (lets0 fun _ => 0) d := List.forall_mem_cons.2 ⟨dk_73, List.forall_mem_cons.2 ⟨dk_74, List.forall_mem_cons.2 ⟨dk_75, List.forall_mem_cons.2 ⟨dk_76, List.forall_mem_cons.2 ⟨dk_77, List.forall_mem_cons.2 ⟨dk_78, List.forall_mem_cons.2 ⟨dk_80, List.forall_mem_cons.2 ⟨dk_81, List.forall_mem_cons.2 ⟨dk_82, List.forall_mem_cons.2 ⟨dk_83, List.forall_mem_cons.2 ⟨dk_84, (fun _ h => by cases h)⟩⟩⟩⟩⟩⟩⟩⟩⟩⟩⟩
end Go.Proofs.YtjjibclfmknblabGreat.Y
