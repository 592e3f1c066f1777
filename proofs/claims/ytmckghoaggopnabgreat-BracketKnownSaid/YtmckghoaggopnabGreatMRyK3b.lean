/-
  Calls that are known, each by one run.
-/
import Derived.Test.YtmckghoaggopnabGreatMRyK3
set_option linter.all false
namespace Go.Proofs.YtmckghoaggopnabGreat.Y
open Go Go.Ry Go.RowKit
def r_142 : Row := ⟨31, [.agg [.v (.int .i64 9), .v (.int .i64 2), .v (.int .i64 0), .v (.int .i64 1)], .agg [.v (.int .i64 5), .v (.int .i64 1), .v (.int .i64 0), .v (.int .i64 0)], .one (.v (.int .i64 14))], .s (.one (.v (.bool false)))⟩
theorem k_142 : Known Tryz.prog r_142.f r_142.l r_142.v := row_nowT tabk_3 (by kernel_rfl)
def r_143 : Row := ⟨31, [.agg [.v (.int .i64 9), .v (.int .i64 2), .v (.int .i64 0), .v (.int .i64 1)], .agg [.v (.int .i64 3), .v (.int .i64 1), .v (.int .i64 0), .v (.int .i64 0)], .one (.v (.int .i64 14))], .s (.one (.v (.bool false)))⟩
theorem k_143 : Known Tryz.prog r_143.f r_143.l r_143.v := row_nowT tabk_3 (by kernel_rfl)
def r_144 : Row := ⟨31, [.agg [.v (.int .i64 9), .v (.int .i64 2), .v (.int .i64 0), .v (.int .i64 2)], .agg [.v (.int .i64 9), .v (.int .i64 2), .v (.int .i64 0), .v (.int .i64 1)], .one (.v (.int .i64 14))], .s (.one (.v (.bool false)))⟩
theorem k_144 : Known Tryz.prog r_144.f r_144.l r_144.v := row_nowT tabk_3 (by kernel_rfl)
def r_145 : Row := ⟨31, [.agg [.v (.int .i64 5), .v (.int .i64 1), .v (.int .i64 0), .v (.int .i64 1)], .agg [.v (.int .i64 9), .v (.int .i64 1), .v (.int .i64 0), .v (.int .i64 1)], .one (.v (.int .i64 13))], .s (.one (.v (.bool false)))⟩
theorem k_145 : Known Tryz.prog r_145.f r_145.l r_145.v := row_nowT tabk_3 (by kernel_rfl)
def r_146 : Row := ⟨31, [.agg [.v (.int .i64 3), .v (.int .i64 1), .v (.int .i64 0), .v (.int .i64 1)], .agg [.v (.int .i64 9), .v (.int .i64 1), .v (.int .i64 0), .v (.int .i64 1)], .one (.v (.int .i64 13))], .s (.one (.v (.bool false)))⟩
theorem k_146 : Known Tryz.prog r_146.f r_146.l r_146.v := row_nowT tabk_3 (by kernel_rfl)
def r_147 : Row := ⟨31, [.agg [.v (.int .i64 9), .v (.int .i64 1), .v (.int .i64 0), .v (.int .i64 0)], .agg [.v (.int .i64 5), .v (.int .i64 1), .v (.int .i64 0), .v (.int .i64 0)], .one (.v (.int .i64 13))], .s (.one (.v (.bool true)))⟩
theorem k_147 : Known Tryz.prog r_147.f r_147.l r_147.v := row_nowT tabk_3 (by kernel_rfl)
def r_148 : Row := ⟨31, [.agg [.v (.int .i64 5), .v (.int .i64 1), .v (.int .i64 0), .v (.int .i64 0)], .agg [.v (.int .i64 3), .v (.int .i64 1), .v (.int .i64 0), .v (.int .i64 0)], .one (.v (.int .i64 13))], .s (.one (.v (.bool true)))⟩
theorem k_148 : Known Tryz.prog r_148.f r_148.l r_148.v := row_nowT tabk_3 (by kernel_rfl)
def r_149 : Row := ⟨31, [.agg [.v (.int .i64 9), .v (.int .i64 1), .v (.int .i64 0), .v (.int .i64 1)], .agg [.v (.int .i64 3), .v (.int .i64 1), .v (.int .i64 0), .v (.int .i64 0)], .one (.v (.int .i64 13))], .s (.one (.v (.bool false)))⟩
theorem k_149 : Known Tryz.prog r_149.f r_149.l r_149.v := row_nowT tabk_3 (by kernel_rfl)
def r_150 : Row := ⟨31, [.agg [.v (.int .i64 5), .v (.int .i64 1), .v (.int .i64 0), .v (.int .i64 1)], .agg [.v (.int .i64 9), .v (.int .i64 1), .v (.int .i64 0), .v (.int .i64 1)], .one (.v (.int .i64 11))], .s (.one (.v (.bool false)))⟩
theorem k_150 : Known Tryz.prog r_150.f r_150.l r_150.v := row_nowT tabk_3 (by kernel_rfl)
def r_151 : Row := ⟨31, [.agg [.v (.int .i64 3), .v (.int .i64 0), .v (.int .i64 0), .v (.int .i64 0)], .agg [.v (.int .i64 9), .v (.int .i64 1), .v (.int .i64 0), .v (.int .i64 1)], .one (.v (.int .i64 11))], .s (.one (.v (.bool true)))⟩
theorem k_151 : Known Tryz.prog r_151.f r_151.l r_151.v := row_nowT tabk_3 (by kernel_rfl)
def r_152 : Row := ⟨31, [.agg [.v (.int .i64 9), .v (.int .i64 1), .v (.int .i64 0), .v (.int .i64 0)], .agg [.v (.int .i64 5), .v (.int .i64 1), .v (.int .i64 0), .v (.int .i64 0)], .one (.v (.int .i64 11))], .s (.one (.v (.bool true)))⟩
theorem k_152 : Known Tryz.prog r_152.f r_152.l r_152.v := row_nowT tabk_3 (by kernel_rfl)
def r_153 : Row := ⟨31, [.agg [.v (.int .i64 3), .v (.int .i64 0), .v (.int .i64 0), .v (.int .i64 0)], .agg [.v (.int .i64 5), .v (.int .i64 1), .v (.int .i64 0), .v (.int .i64 0)], .one (.v (.int .i64 11))], .s (.one (.v (.bool false)))⟩
theorem k_153 : Known Tryz.prog r_153.f r_153.l r_153.v := row_nowT tabk_3 (by kernel_rfl)
def r_154 : Row := ⟨31, [.agg [.v (.int .i64 3), .v (.int .i64 3), .v (.int .i64 0), .v (.int .i64 3)], .agg [.v (.int .i64 9), .v (.int .i64 1), .v (.int .i64 0), .v (.int .i64 1)], .one (.v (.int .i64 14))], .s (.one (.v (.bool false)))⟩
theorem k_154 : Known Tryz.prog r_154.f r_154.l r_154.v := row_nowT tabk_3 (by kernel_rfl)
def r_155 : Row := ⟨31, [.agg [.v (.int .i64 5), .v (.int .i64 1), .v (.int .i64 0), .v (.int .i64 0)], .agg [.v (.int .i64 3), .v (.int .i64 3), .v (.int .i64 0), .v (.int .i64 2)], .one (.v (.int .i64 14))], .s (.one (.v (.bool true)))⟩
theorem k_155 : Known Tryz.prog r_155.f r_155.l r_155.v := row_nowT tabk_3 (by kernel_rfl)
def rs_3b : List Row := [r_142, r_143, r_144, r_145, r_146, r_147, r_148, r_149, r_150, r_151, r_152, r_153, r_154, r_155]
theorem rs_3b_k : ∀ r ∈ rs_3b, Known Tryz.prog r.f r.l r.v := List.forall_mem_cons.2 ⟨k_142, List.forall_mem_cons.2 ⟨k_143, List.forall_mem_cons.2 ⟨k_144, List.forall_mem_cons.2 ⟨k_145, List.forall_mem_cons.2 ⟨k_146, List.forall_mem_cons.2 ⟨k_147, List.forall_mem_cons.2 ⟨k_148, List.forall_mem_cons.2 ⟨k_149, List.forall_mem_cons.2 ⟨k_150, List.forall_mem_cons.2 ⟨k_151, List.forall_mem_cons.2 ⟨k_152, List.forall_mem_cons.2 ⟨k_153, List.forall_mem_cons.2 ⟨k_154, List.forall_mem_cons.2 ⟨k_155, (fun _ h => by cases h)⟩⟩⟩⟩⟩⟩⟩⟩⟩⟩⟩⟩⟩⟩
end Go.Proofs.YtmckghoaggopnabGreat.Y
