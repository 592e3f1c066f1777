/-
  Calls that are known, each by one run.
-/
import Derived.Test.YtmckghoaggopnadGreatMRyK2
set_option linter.all false
namespace Go.Proofs.YtmckghoaggopnadGreat.Y
open Go Go.Ry Go.RowKit
def d_60 : DRow := ⟨9, [.one (.sl 0 0 3 3), .one (.v (.int .i64 5)), .one (.v (.int .i64 1)), .one (.v (.int .i64 2))], [([.v (.int .i64 6), .v (.int .i64 6), .v (.int .i64 2)], 3)], .tup [.one (.v (.int .i64 0)), .one (.v (.int .i64 0)), .one (.v (.int .i64 2))], [], [], [(0, (0, 0))]⟩
set_option maxRecDepth 1000000 in
theorem dk_60 : Deep Tryz.prog (lets0 fun _ => 0) d_60 := deep_nowT tabk_2 (by kernel_rfl)
def d_61 : DRow := ⟨9, [.one (.sl 0 0 3 3), .one (.v (.int .i64 10)), .one (.v (.int .i64 1)), .one (.v (.int .i64 2))], [([.v (.int .i64 6), .v (.int .i64 6), .v (.int .i64 2)], 3)], .tup [.one (.v (.int .i64 0)), .one (.v (.int .i64 0)), .one (.v (.int .i64 2))], [], [], [(0, (0, 0))]⟩
set_option maxRecDepth 1000000 in
theorem dk_61 : Deep Tryz.prog (lets0 fun _ => 0) d_61 := deep_nowT tabk_2 (by kernel_rfl)
def d_62 : DRow := ⟨9, [.one (.sl 0 0 3 3), .one (.v (.int .i64 16)), .one (.v (.int .i64 1)), .one (.v (.int .i64 2))], [([.v (.int .i64 6), .v (.int .i64 6), .v (.int .i64 2)], 3)], .tup [.one (.v (.int .i64 0)), .one (.v (.int .i64 0)), .one (.v (.int .i64 2))], [], [], [(0, (0, 0))]⟩
set_option maxRecDepth 1000000 in
theorem dk_62 : Deep Tryz.prog (lets0 fun _ => 0) d_62 := deep_nowT tabk_2 (by kernel_rfl)
def d_63 : DRow := ⟨9, [.one (.sl 0 0 3 3), .one (.v (.int .i64 1)), .one (.v (.int .i64 0)), .one (.v (.int .i64 2))], [([.v (.int .i64 6), .v (.int .i64 6), .v (.int .i64 2)], 3)], .tup [.one (.v (.int .i64 0)), .one (.v (.int .i64 0)), .one (.v (.int .i64 2))], [], [], [(0, (0, 0))]⟩
set_option maxRecDepth 1000000 in
theorem dk_63 : Deep Tryz.prog (lets0 fun _ => 0) d_63 := deep_nowT tabk_2 (by kernel_rfl)
def d_64 : DRow := ⟨9, [.one (.sl 0 0 3 3), .one (.v (.int .i64 1)), .one (.v (.int .i64 2)), .one (.v (.int .i64 1))], [([.v (.int .i64 6), .v (.int .i64 6), .v (.int .i64 2)], 3)], .tup [.one (.v (.int .i64 0)), .one (.v (.int .i64 0)), .one (.v (.int .i64 2))], [], [], [(0, (0, 0))]⟩
set_option maxRecDepth 1000000 in
theorem dk_64 : Deep Tryz.prog (lets0 fun _ => 0) d_64 := deep_nowT tabk_2 (by kernel_rfl)
def d_65 : DRow := ⟨9, [.one (.sl 0 0 3 3), .one (.v (.int .i64 1)), .one (.v (.int .i64 5)), .one (.v (.int .i64 106))], [([.v (.int .i64 6), .v (.int .i64 6), .v (.int .i64 2)], 3)], .tup [.one (.v (.int .i64 0)), .one (.v (.int .i64 0)), .one (.v (.int .i64 2))], [], [], [(0, (0, 0))]⟩
set_option maxRecDepth 1000000 in
theorem dk_65 : Deep Tryz.prog (lets0 fun _ => 0) d_65 := deep_nowT tabk_2 (by kernel_rfl)
def d_66 : DRow := ⟨9, [.one (.sl 0 0 3 3), .one (.v (.int .i64 1)), .one (.v (.int .i64 950)), .one (.v (.int .i64 1001))], [([.v (.int .i64 6), .v (.int .i64 6), .v (.int .i64 2)], 3)], .tup [.one (.v (.int .i64 0)), .one (.v (.int .i64 0)), .one (.v (.int .i64 2))], [], [], [(0, (0, 0))]⟩
set_option maxRecDepth 1000000 in
theorem dk_66 : Deep Tryz.prog (lets0 fun _ => 0) d_66 := deep_nowT tabk_2 (by kernel_rfl)
def d_67 : DRow := ⟨9, [.one (.sl 0 0 3 3), .one (.v (.int .i64 1)), .one (.v (.int .i64 1000)), .one (.v (.int .i64 1000))], [([.v (.int .i64 6), .v (.int .i64 6), .v (.int .i64 2)], 3)], .tup [.one (.v (.int .i64 0)), .one (.v (.int .i64 0)), .one (.v (.int .i64 4))], [], [], [(0, (0, 0))]⟩
set_option maxRecDepth 1000000 in
theorem dk_67 : Deep Tryz.prog (lets0 fun _ => 0) d_67 := deep_nowT tabk_2 (by kernel_rfl)
def d_68 : DRow := ⟨10, [.one (.sl 0 0 3 3), .one (.sl 1 0 3 3), .one (.v (.int .i64 20)), .one (.v (.int .i64 1))], [([.v (.int .i64 1050), .v (.int .i64 145), .v (.int .i64 805)], 3), ([.v (.int .i64 1040), .v (.int .i64 143), .v (.int .i64 817)], 3)], .tup [.one (.slf 2 0 1 2), .one (.v (.int .i64 0))], [([.v (.int .i64 0), .v (.int .i64 1)], 41)], [(0, (0, 0))], [(0, (0, 0)), (0, (1, 0))]⟩
set_option maxRecDepth 1000000 in
theorem dk_68 : Deep Tryz.prog (lets0 fun _ => 0) d_68 := deep_nowT tabk_2 (by kernel_rfl)
def r_69 : Row := ⟨10, [.one (.v (.slice none 0 0)), .one (.v (.slice none 0 0)), .one (.v (.int .i64 0)), .one (.v (.int .i64 0))], .tup [.one (.v (.slice none 0 0)), .one (.v (.int .i64 60))]⟩
set_option maxRecDepth 1000000 in
theorem k_69 : Known Tryz.prog r_69.f r_69.l r_69.v := row_nowT tabk_2 (by kernel_rfl)
def rs_2d : List Row := [r_69]
theorem rs_2d_k : ∀ r ∈ rs_2d, Known Tryz.prog r.f r.l r.v := List.forall_mem_cons.2 ⟨k_69, (fun _ h => by cases h)⟩
def ds_2d : List DRow := [d_60, d_61, d_62, d_63, d_64, d_65, d_66, d_67, d_68]
theorem ds_2d_k : ∀ d ∈ ds_2d, Deep Tryz.prog (lets0 fun _ => 0) d := List.forall_mem_cons.2 ⟨dk_60, List.forall_mem_cons.2 ⟨dk_61, List.forall_mem_cons.2 ⟨dk_62, List.forall_mem_cons.2 ⟨dk_63, List.forall_mem_cons.2 ⟨dk_64, List.forall_mem_cons.2 ⟨dk_65, List.forall_mem_cons.2 ⟨dk_66, List.forall_mem_cons.2 ⟨dk_67, List.forall_mem_cons.2 ⟨dk_68, (fun _ h => by cases h)⟩⟩⟩⟩⟩⟩⟩⟩⟩
end Go.Proofs.YtmckghoaggopnadGreat.Y
