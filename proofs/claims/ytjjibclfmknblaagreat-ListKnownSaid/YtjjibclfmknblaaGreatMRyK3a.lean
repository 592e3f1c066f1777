/-
  Calls that are known, each by one run.
-/
import Derived.Test.YtjjibclfmknblaaGreatMRyK3
set_option linter.all false
namespace Go.Proofs.YtjjibclfmknblaaGreat.Y
open Go Go.Ry Go.RowKit
def r_68 : Row := ⟨4, [], .s (.one (.v (.bool true)))⟩
set_option maxRecDepth 1000000 in
theorem k_68 : Known Tryz.prog r_68.f r_68.l r_68.v := row_nowT tabk_3 (by kernel_rfl)
def d_69 : DRow := ⟨13, [.one (.sl 0 0 4 4), .agg [.v (.int .i64 14), .v (.int .i64 10), .v (.int .i64 1000), .v (.int .i64 0), .v (.int .i64 0)], .one (.sl 1 0 4 4)], [([.v (.int .i64 50), .v (.int .i64 0), .v (.int .i64 30), .v (.int .i64 1), .v (.int .i64 15), .v (.int .i64 1), .v (.int .i64 5), .v (.int .i64 0)], 29), ([.v (.int .i64 5), .v (.int .i64 3), .v (.int .i64 2), .v (.int .i64 0)], 3)], .s (.one (.v (.bool true))), [], [], [(0, (0, 0)), (0, (2, 0))]⟩
set_option maxRecDepth 1000000 in
theorem dk_69 : Deep Tryz.prog (lets0 fun _ => 0) d_69 := deep_nowT tabk_3 (by kernel_rfl)
def d_70 : DRow := ⟨13, [.one (.sl 0 0 4 4), .agg [.v (.int .i64 14), .v (.int .i64 10), .v (.int .i64 1000), .v (.int .i64 0), .v (.int .i64 4)], .one (.sl 1 0 4 4)], [([.v (.int .i64 50), .v (.int .i64 0), .v (.int .i64 30), .v (.int .i64 1), .v (.int .i64 15), .v (.int .i64 1), .v (.int .i64 5), .v (.int .i64 0)], 29), ([.v (.int .i64 7), .v (.int .i64 2), .v (.int .i64 1), .v (.int .i64 0)], 3)], .s (.one (.v (.bool true))), [], [], [(0, (0, 0)), (0, (2, 0))]⟩
set_option maxRecDepth 1000000 in
theorem dk_70 : Deep Tryz.prog (lets0 fun _ => 0) d_70 := deep_nowT tabk_3 (by kernel_rfl)
def d_71 : DRow := ⟨13, [.one (.sl 0 0 2 2), .agg [.v (.int .i64 11), .v (.int .i64 2), .v (.int .i64 1000), .v (.int .i64 0), .v (.int .i64 0)], .one (.sl 1 0 2 2)], [([.v (.int .i64 9), .v (.int .i64 0), .v (.int .i64 1), .v (.int .i64 0)], 29), ([.v (.int .i64 1), .v (.int .i64 1)], 3)], .s (.one (.v (.bool true))), [], [], [(0, (0, 0)), (0, (2, 0))]⟩
set_option maxRecDepth 1000000 in
theorem dk_71 : Deep Tryz.prog (lets0 fun _ => 0) d_71 := deep_nowT tabk_3 (by kernel_rfl)
def d_72 : DRow := ⟨13, [.one (.sl 0 0 2 2), .agg [.v (.int .i64 11), .v (.int .i64 2), .v (.int .i64 1001), .v (.int .i64 0), .v (.int .i64 0)], .one (.sl 1 0 2 2)], [([.v (.int .i64 9), .v (.int .i64 0), .v (.int .i64 1), .v (.int .i64 0)], 29), ([.v (.int .i64 2), .v (.int .i64 0)], 3)], .s (.one (.v (.bool true))), [], [], [(0, (0, 0)), (0, (2, 0))]⟩
set_option maxRecDepth 1000000 in
theorem dk_72 : Deep Tryz.prog (lets0 fun _ => 0) d_72 := deep_nowT tabk_3 (by kernel_rfl)
def d_73 : DRow := ⟨13, [.one (.sl 0 0 2 2), .agg [.v (.int .i64 11), .v (.int .i64 2), .v (.int .i64 1001), .v (.int .i64 1000), .v (.int .i64 0)], .one (.sl 1 0 2 2)], [([.v (.int .i64 9), .v (.int .i64 0), .v (.int .i64 1), .v (.int .i64 12)], 29), ([.v (.int .i64 1), .v (.int .i64 1)], 3)], .s (.one (.v (.bool true))), [], [], [(0, (0, 0)), (0, (2, 0))]⟩
set_option maxRecDepth 1000000 in
theorem dk_73 : Deep Tryz.prog (lets0 fun _ => 0) d_73 := deep_nowT tabk_3 (by kernel_rfl)
def d_74 : DRow := ⟨13, [.one (.sl 0 0 3 3), .agg [.v (.int .i64 14), .v (.int .i64 4), .v (.int .i64 0), .v (.int .i64 0), .v (.int .i64 4)], .one (.sl 1 0 3 3)], [([.v (.int .i64 5), .v (.int .i64 7), .v (.int .i64 4), .v (.int .i64 0), .v (.int .i64 5), .v (.int .i64 7)], 29), ([.v (.int .i64 2), .v (.int .i64 0), .v (.int .i64 2)], 3)], .s (.one (.v (.bool true))), [], [], [(0, (0, 0)), (0, (2, 0))]⟩
set_option maxRecDepth 1000000 in
theorem dk_74 : Deep Tryz.prog (lets0 fun _ => 0) d_74 := deep_nowT tabk_3 (by kernel_rfl)
def rs_3a : List Row := [r_68]
theorem rs_3a_k : ∀ r ∈ rs_3a, Known Tryz.prog r.f r.l r.v := List.forall_mem_cons.2 ⟨k_68, (fun _ h => by cases h)⟩
def ds_3a : List DRow := [d_69, d_70, d_71, d_72, d_73, d_74]
theorem ds_3a_k : ∀ d ∈ ds_3a, Deep Tryz.prog (lets0 fun _ => 0) d := List.forall_mem_cons.2 ⟨dk_69, List.forall_mem_cons.2 ⟨dk_70, List.forall_mem_cons.2 ⟨dk_71, List.forall_mem_cons.2 ⟨dk_72, List.forall_mem_cons.2 ⟨dk_73, List.forall_mem_cons.2 ⟨dk_74, (fun _ h => by cases h)⟩⟩⟩⟩⟩⟩
end Go.Proofs.YtjjibclfmknblaaGreat.Y
