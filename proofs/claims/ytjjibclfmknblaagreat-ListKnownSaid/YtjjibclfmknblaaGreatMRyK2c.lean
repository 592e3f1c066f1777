/-
  Calls that are known, each by one run.
-/
import Derived.Test.YtjjibclfmknblaaGreatMRyK2
set_option linter.all false
namespace Go.Proofs.YtjjibclfmknblaaGreat.Y
open Go Go.Ry Go.RowKit
def r_38 : Row := ⟨10, [.one (.v (.slice none 0 0)), .agg [.v (.int .i64 0), .v (.int .i64 0), .v (.int .i64 0), .v (.int .i64 0), .v (.int .i64 0)]], .tup [.one (.v (.slice none 0 0)), .one (.v (.int .i64 110))]⟩
set_option maxRecDepth 1000000 in
theorem k_38 : Known Tryz.prog r_38.f r_38.l r_38.v := row_nowT tabk_2 (by kernel_rfl)
def d_39 : DRow := ⟨10, [.one (.sl 0 0 1 1), .agg [.v (.int .i64 0), .v (.int .i64 0), .v (.int .i64 0), .v (.int .i64 0), .v (.int .i64 0)]], [([.v (.int .i64 0), .v (.int .i64 0)], 29)], .tup [.one (.v (.slice none 0 0)), .one (.v (.int .i64 110))], [], [], [(0, (0, 0))]⟩
set_option maxRecDepth 1000000 in
theorem dk_39 : Deep Tryz.prog (lets0 fun _ => 0) d_39 := deep_nowT tabk_2 (by kernel_rfl)
def d_40 : DRow := ⟨10, [.one (.sl 0 0 2 2), .agg [.v (.int .i64 0), .v (.int .i64 0), .v (.int .i64 0), .v (.int .i64 0), .v (.int .i64 0)]], [([.v (.int .i64 (-1)), .v (.int .i64 0), .v (.int .i64 2), .v (.int .i64 0)], 29)], .tup [.one (.v (.slice none 0 0)), .one (.v (.int .i64 110))], [], [], [(0, (0, 0))]⟩
set_option maxRecDepth 1000000 in
theorem dk_40 : Deep Tryz.prog (lets0 fun _ => 0) d_40 := deep_nowT tabk_2 (by kernel_rfl)
def d_41 : DRow := ⟨10, [.one (.sl 0 0 1 1), .agg [.v (.int .i64 0), .v (.int .i64 0), .v (.int .i64 0), .v (.int .i64 0), .v (.int .i64 0)]], [([.v (.int .i64 1000000001), .v (.int .i64 0)], 29)], .tup [.one (.v (.slice none 0 0)), .one (.v (.int .i64 110))], [], [], [(0, (0, 0))]⟩
set_option maxRecDepth 1000000 in
theorem dk_41 : Deep Tryz.prog (lets0 fun _ => 0) d_41 := deep_nowT tabk_2 (by kernel_rfl)
def d_42 : DRow := ⟨10, [.one (.sl 0 0 1 1), .agg [.v (.int .i64 0), .v (.int .i64 0), .v (.int .i64 0), .v (.int .i64 0), .v (.int .i64 0)]], [([.v (.int .i64 1), .v (.int .i64 13)], 29)], .tup [.one (.v (.slice none 0 0)), .one (.v (.int .i64 110))], [], [], [(0, (0, 0))]⟩
set_option maxRecDepth 1000000 in
theorem dk_42 : Deep Tryz.prog (lets0 fun _ => 0) d_42 := deep_nowT tabk_2 (by kernel_rfl)
def d_43 : DRow := ⟨10, [.one (.sl 0 0 1 1), .agg [.v (.int .i64 0), .v (.int .i64 0), .v (.int .i64 0), .v (.int .i64 0), .v (.int .i64 0)]], [([.v (.int .i64 1), .v (.int .i64 (-1))], 29)], .tup [.one (.v (.slice none 0 0)), .one (.v (.int .i64 110))], [], [], [(0, (0, 0))]⟩
set_option maxRecDepth 1000000 in
theorem dk_43 : Deep Tryz.prog (lets0 fun _ => 0) d_43 := deep_nowT tabk_2 (by kernel_rfl)
def d_44 : DRow := ⟨10, [.one (.sl 0 0 12 12), .agg [.v (.int .i64 0), .v (.int .i64 0), .v (.int .i64 0), .v (.int .i64 0), .v (.int .i64 0)]], [([.v (.int .i64 0), .v (.int .i64 0), .v (.int .i64 0), .v (.int .i64 0), .v (.int .i64 0), .v (.int .i64 0), .v (.int .i64 0), .v (.int .i64 0), .v (.int .i64 0), .v (.int .i64 0), .v (.int .i64 0), .v (.int .i64 0), .v (.int .i64 0), .v (.int .i64 0), .v (.int .i64 0), .v (.int .i64 0), .v (.int .i64 0), .v (.int .i64 0), .v (.int .i64 0), .v (.int .i64 0), .v (.int .i64 0), .v (.int .i64 0), .v (.int .i64 0), .v (.int .i64 0)], 29)], .tup [.one (.v (.slice none 0 0)), .one (.v (.int .i64 110))], [], [], [(0, (0, 0))]⟩
set_option maxRecDepth 1000000 in
theorem dk_44 : Deep Tryz.prog (lets0 fun _ => 0) d_44 := deep_nowT tabk_2 (by kernel_rfl)
def d_45 : DRow := ⟨10, [.one (.slf 0 0 13 2), .agg [.v (.int .i64 0), .v (.int .i64 0), .v (.int .i64 0), .v (.int .i64 0), .v (.int .i64 0)]], [([.v (.int .i64 0), .v (.int .i64 0), .v (.int .i64 0), .v (.int .i64 0), .v (.int .i64 0), .v (.int .i64 0), .v (.int .i64 0), .v (.int .i64 0), .v (.int .i64 0), .v (.int .i64 0), .v (.int .i64 0), .v (.int .i64 0), .v (.int .i64 0), .v (.int .i64 0), .v (.int .i64 0), .v (.int .i64 0), .v (.int .i64 0), .v (.int .i64 0), .v (.int .i64 0), .v (.int .i64 0), .v (.int .i64 0), .v (.int .i64 0), .v (.int .i64 0), .v (.int .i64 0), .v (.int .i64 1), .v (.int .i64 0)], 29)], .tup [.one (.v (.slice none 0 0)), .one (.v (.int .i64 110))], [], [], [(0, (0, 0))]⟩
set_option maxRecDepth 1000000 in
theorem dk_45 : Deep Tryz.prog (lets0 fun _ => 0) d_45 := deep_nowT tabk_2 (by kernel_rfl)
def d_46 : DRow := ⟨10, [.one (.sl 0 0 4 4), .agg [.v (.int .i64 0), .v (.int .i64 10), .v (.int .i64 1000), .v (.int .i64 0), .v (.int .i64 0)]], [([.v (.int .i64 50), .v (.int .i64 0), .v (.int .i64 30), .v (.int .i64 1), .v (.int .i64 15), .v (.int .i64 1), .v (.int .i64 5), .v (.int .i64 0)], 29)], .tup [.one (.v (.slice none 0 0)), .one (.v (.int .i64 2))], [], [], [(0, (0, 0))]⟩
set_option maxRecDepth 1000000 in
theorem dk_46 : Deep Tryz.prog (lets0 fun _ => 0) d_46 := deep_nowT tabk_2 (by kernel_rfl)
def d_47 : DRow := ⟨10, [.one (.sl 0 0 4 4), .agg [.v (.int .i64 5), .v (.int .i64 10), .v (.int .i64 1000), .v (.int .i64 0), .v (.int .i64 0)]], [([.v (.int .i64 50), .v (.int .i64 0), .v (.int .i64 30), .v (.int .i64 1), .v (.int .i64 15), .v (.int .i64 1), .v (.int .i64 5), .v (.int .i64 0)], 29)], .tup [.one (.v (.slice none 0 0)), .one (.v (.int .i64 2))], [], [], [(0, (0, 0))]⟩
set_option maxRecDepth 1000000 in
theorem dk_47 : Deep Tryz.prog (lets0 fun _ => 0) d_47 := deep_nowT tabk_2 (by kernel_rfl)
def d_48 : DRow := ⟨10, [.one (.sl 0 0 4 4), .agg [.v (.int .i64 16), .v (.int .i64 10), .v (.int .i64 1000), .v (.int .i64 0), .v (.int .i64 0)]], [([.v (.int .i64 50), .v (.int .i64 0), .v (.int .i64 30), .v (.int .i64 1), .v (.int .i64 15), .v (.int .i64 1), .v (.int .i64 5), .v (.int .i64 0)], 29)], .tup [.one (.v (.slice none 0 0)), .one (.v (.int .i64 2))], [], [], [(0, (0, 0))]⟩
set_option maxRecDepth 1000000 in
theorem dk_48 : Deep Tryz.prog (lets0 fun _ => 0) d_48 := deep_nowT tabk_2 (by kernel_rfl)
def d_49 : DRow := ⟨10, [.one (.sl 0 0 4 4), .agg [.v (.int .i64 14), .v (.int .i64 0), .v (.int .i64 1000), .v (.int .i64 0), .v (.int .i64 0)]], [([.v (.int .i64 50), .v (.int .i64 0), .v (.int .i64 30), .v (.int .i64 1), .v (.int .i64 15), .v (.int .i64 1), .v (.int .i64 5), .v (.int .i64 0)], 29)], .tup [.one (.v (.slice none 0 0)), .one (.v (.int .i64 2))], [], [], [(0, (0, 0))]⟩
set_option maxRecDepth 1000000 in
theorem dk_49 : Deep Tryz.prog (lets0 fun _ => 0) d_49 := deep_nowT tabk_2 (by kernel_rfl)
def rs_2c : List Row := [r_38]
theorem rs_2c_k : ∀ r ∈ rs_2c, Known Tryz.prog r.f r.l r.v := List.forall_mem_cons.2 ⟨k_38, (fun _ h => by cases h)⟩
def ds_2c : List DRow := [d_39, d_40, d_41, d_42, d_43, d_44, d_45, d_46, d_47, d_48, d_49]
theorem ds_2c_k : ∀ d ∈ ds_2c, Deep Tryz.prog (lets0 fun _ => 0) d := List.forall_mem_cons.2 ⟨dk_39, List.forall_mem_cons.2 ⟨dk_40, List.forall_mem_cons.2 ⟨dk_41, List.forall_mem_cons.2 ⟨dk_42, List.forall_mem_cons.2 ⟨dk_43, List.forall_mem_cons.2 ⟨dk_44, List.forall_mem_cons.2 ⟨dk_45, List.forall_mem_cons.2 ⟨dk_46, List.forall_mem_cons.2 ⟨dk_47, List.forall_mem_cons.2 ⟨dk_48, List.forall_mem_cons.2 ⟨dk_49, (fun _ h => by cases h)⟩⟩⟩⟩⟩⟩⟩⟩⟩⟩⟩
end Go.Proofs.YtjjibclfmknblaaGreat.Y
