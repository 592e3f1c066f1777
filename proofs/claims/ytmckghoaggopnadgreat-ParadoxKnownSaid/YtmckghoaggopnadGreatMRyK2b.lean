/-
  Calls that are known, each by one run.
-/
import Derived.Test.YtmckghoaggopnadGreatMRyK2
set_option linter.all false
namespace Go.Proofs.YtmckghoaggopnadGreat.Y
open Go Go.Ry Go.RowKit
def d_40 : DRow := ⟨6, [.one (.sl 0 0 2 2), .one (.v (.int .i64 1)), .one (.v (.int .i64 14))], [([.v (.int .i64 0), .v (.int .i64 5)], 3)], .tup [.one (.slf 1 0 2 1), .one (.v (.int .i64 0))], [([.v (.int .i64 0), .v (.int .i64 1)], 3)], [(0, (0, 0))], [(0, (0, 0))]⟩
set_option maxRecDepth 1000000 in
theorem dk_40 : Deep Tryz.prog (lets0 fun _ => 0) d_40 := deep_nowT tabk_2 (by kernel_rfl)
def d_41 : DRow := ⟨6, [.one (.sl 0 0 2 2), .one (.v (.int .i64 1)), .one (.v (.int .i64 15))], [([.v (.int .i64 0), .v (.int .i64 5)], 3)], .tup [.one (.slf 1 0 2 1), .one (.v (.int .i64 0))], [([.v (.int .i64 0), .v (.int .i64 1)], 3)], [(0, (0, 0))], [(0, (0, 0))]⟩
set_option maxRecDepth 1000000 in
theorem dk_41 : Deep Tryz.prog (lets0 fun _ => 0) d_41 := deep_nowT tabk_2 (by kernel_rfl)
def r_42 : Row := ⟨6, [.one (.v (.slice none 0 0)), .one (.v (.int .i64 0)), .one (.v (.int .i64 0))], .tup [.one (.v (.slice none 0 0)), .one (.v (.int .i64 60))]⟩
set_option maxRecDepth 1000000 in
theorem k_42 : Known Tryz.prog r_42.f r_42.l r_42.v := row_nowT tabk_2 (by kernel_rfl)
def d_43 : DRow := ⟨6, [.one (.sl 0 0 3 3), .one (.v (.int .i64 0)), .one (.v (.int .i64 1))], [([.v (.int .i64 6), .v (.int .i64 6), .v (.int .i64 2)], 3)], .tup [.one (.v (.slice none 0 0)), .one (.v (.int .i64 2))], [], [], [(0, (0, 0))]⟩
set_option maxRecDepth 1000000 in
theorem dk_43 : Deep Tryz.prog (lets0 fun _ => 0) d_43 := deep_nowT tabk_2 (by kernel_rfl)
def d_44 : DRow := ⟨6, [.one (.sl 0 0 3 3), .one (.v (.int .i64 1001)), .one (.v (.int .i64 11))], [([.v (.int .i64 6), .v (.int .i64 6), .v (.int .i64 2)], 3)], .tup [.one (.v (.slice none 0 0)), .one (.v (.int .i64 2))], [], [], [(0, (0, 0))]⟩
set_option maxRecDepth 1000000 in
theorem dk_44 : Deep Tryz.prog (lets0 fun _ => 0) d_44 := deep_nowT tabk_2 (by kernel_rfl)
def d_45 : DRow := ⟨6, [.one (.sl 0 0 3 3), .one (.v (.int .i64 1)), .one (.v (.int .i64 5))], [([.v (.int .i64 6), .v (.int .i64 6), .v (.int .i64 2)], 3)], .tup [.one (.v (.slice none 0 0)), .one (.v (.int .i64 2))], [], [], [(0, (0, 0))]⟩
set_option maxRecDepth 1000000 in
theorem dk_45 : Deep Tryz.prog (lets0 fun _ => 0) d_45 := deep_nowT tabk_2 (by kernel_rfl)
def d_46 : DRow := ⟨6, [.one (.sl 0 0 2 2), .one (.v (.int .i64 2)), .one (.v (.int .i64 4))], [([.v (.int .i64 1), .v (.int .i64 1)], 3)], .tup [.one (.v (.slice none 0 0)), .one (.v (.int .i64 9))], [], [], [(0, (0, 0))]⟩
set_option maxRecDepth 1000000 in
theorem dk_46 : Deep Tryz.prog (lets0 fun _ => 0) d_46 := deep_nowT tabk_2 (by kernel_rfl)
def d_47 : DRow := ⟨8, [.one (.sl 0 0 3 3), .one (.v (.int .i64 1)), .one (.v (.int .i64 10)), .one (.v (.int .i64 12))], [([.v (.int .i64 6), .v (.int .i64 6), .v (.int .i64 2)], 3)], .tup [.one (.slf 1 0 1 2), .one (.v (.int .i64 0))], [([.v (.int .i64 11), .v (.int .i64 2)], 41)], [(0, (0, 0))], [(0, (0, 0))]⟩
set_option maxRecDepth 1000000 in
theorem dk_47 : Deep Tryz.prog (lets0 fun _ => 0) d_47 := deep_nowT tabk_2 (by kernel_rfl)
def r_48 : Row := ⟨8, [.one (.v (.slice none 0 0)), .one (.v (.int .i64 0)), .one (.v (.int .i64 0)), .one (.v (.int .i64 0))], .tup [.one (.v (.slice none 0 0)), .one (.v (.int .i64 60))]⟩
set_option maxRecDepth 1000000 in
theorem k_48 : Known Tryz.prog r_48.f r_48.l r_48.v := row_nowT tabk_2 (by kernel_rfl)
def d_49 : DRow := ⟨8, [.one (.sl 0 0 3 3), .one (.v (.int .i64 0)), .one (.v (.int .i64 1)), .one (.v (.int .i64 2))], [([.v (.int .i64 6), .v (.int .i64 6), .v (.int .i64 2)], 3)], .tup [.one (.v (.slice none 0 0)), .one (.v (.int .i64 2))], [], [], [(0, (0, 0))]⟩
set_option maxRecDepth 1000000 in
theorem dk_49 : Deep Tryz.prog (lets0 fun _ => 0) d_49 := deep_nowT tabk_2 (by kernel_rfl)
def rs_2b : List Row := [r_42, r_48]
theorem rs_2b_k : ∀ r ∈ rs_2b, Known Tryz.prog r.f r.l r.v := List.forall_mem_cons.2 ⟨k_42, List.forall_mem_cons.2 ⟨k_48, (fun _ h => by cases h)⟩⟩
def ds_2b : List DRow := [d_40, d_41, d_43, d_44, d_45, d_46, d_47, d_49]
theorem ds_2b_k : ∀ d ∈ ds_2b, Deep Tryz.prog (lets0 fun _ => 0) d := List.forall_mem_cons.2 ⟨dk_40, List.forall_mem_cons.2 ⟨dk_41, List.forall_mem_cons.2 ⟨dk_43, List.forall_mem_cons.2 ⟨dk_44, List.forall_mem_cons.2 ⟨dk_45, List.forall_mem_cons.2 ⟨dk_46, List.forall_mem_cons.2 ⟨dk_47, List.forall_mem_cons.2 ⟨dk_49, (fun _ h => by cases h)⟩⟩⟩⟩⟩⟩⟩⟩
end Go.Proofs.YtmckghoaggopnadGreat.Y
