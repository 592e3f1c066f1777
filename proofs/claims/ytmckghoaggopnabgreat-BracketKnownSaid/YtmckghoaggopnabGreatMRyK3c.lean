/-
  Calls that are known, each by one run.
-/
import Derived.Test.YtmckghoaggopnabGreatMRyK3
set_option linter.all false
namespace Go.Proofs.YtmckghoaggopnabGreat.Y
open Go Go.Ry Go.RowKit
def r_156 : Row := ⟨31, [.agg [.v (.int .i64 9), .v (.int .i64 1), .v (.int .i64 0), .v (.int .i64 1)], .agg [.v (.int .i64 3), .v (.int .i64 3), .v (.int .i64 0), .v (.int .i64 2)], .one (.v (.int .i64 14))], .s (.one (.v (.bool true)))⟩
theorem k_156 : Known Tryz.prog r_156.f r_156.l r_156.v := row_nowT tabk_3 (by kernel_rfl)
def r_157 : Row := ⟨31, [.agg [.v (.int .i64 3), .v (.int .i64 3), .v (.int .i64 3), .v (.int .i64 3)], .agg [.v (.int .i64 9), .v (.int .i64 1), .v (.int .i64 0), .v (.int .i64 1)], .one (.v (.int .i64 14))], .s (.one (.v (.bool false)))⟩
theorem k_157 : Known Tryz.prog r_157.f r_157.l r_157.v := row_nowT tabk_3 (by kernel_rfl)
def r_158 : Row := ⟨31, [.agg [.v (.int .i64 9), .v (.int .i64 1), .v (.int .i64 0), .v (.int .i64 1)], .agg [.v (.int .i64 5), .v (.int .i64 1), .v (.int .i64 0), .v (.int .i64 0)], .one (.v (.int .i64 14))], .s (.one (.v (.bool false)))⟩
theorem k_158 : Known Tryz.prog r_158.f r_158.l r_158.v := row_nowT tabk_3 (by kernel_rfl)
def r_159 : Row := ⟨31, [.agg [.v (.int .i64 5), .v (.int .i64 1), .v (.int .i64 0), .v (.int .i64 1)], .agg [.v (.int .i64 9), .v (.int .i64 0), .v (.int .i64 0), .v (.int .i64 0)], .one (.v (.int .i64 11))], .s (.one (.v (.bool false)))⟩
theorem k_159 : Known Tryz.prog r_159.f r_159.l r_159.v := row_nowT tabk_3 (by kernel_rfl)
def r_160 : Row := ⟨31, [.agg [.v (.int .i64 3), .v (.int .i64 1), .v (.int .i64 0), .v (.int .i64 1)], .agg [.v (.int .i64 9), .v (.int .i64 0), .v (.int .i64 0), .v (.int .i64 0)], .one (.v (.int .i64 11))], .s (.one (.v (.bool false)))⟩
theorem k_160 : Known Tryz.prog r_160.f r_160.l r_160.v := row_nowT tabk_3 (by kernel_rfl)
def r_161 : Row := ⟨31, [.agg [.v (.int .i64 5), .v (.int .i64 1), .v (.int .i64 0), .v (.int .i64 0)], .agg [.v (.int .i64 3), .v (.int .i64 1), .v (.int .i64 0), .v (.int .i64 0)], .one (.v (.int .i64 11))], .s (.one (.v (.bool true)))⟩
theorem k_161 : Known Tryz.prog r_161.f r_161.l r_161.v := row_nowT tabk_3 (by kernel_rfl)
def r_162 : Row := ⟨31, [.agg [.v (.int .i64 9), .v (.int .i64 0), .v (.int .i64 0), .v (.int .i64 0)], .agg [.v (.int .i64 3), .v (.int .i64 1), .v (.int .i64 0), .v (.int .i64 0)], .one (.v (.int .i64 11))], .s (.one (.v (.bool true)))⟩
theorem k_162 : Known Tryz.prog r_162.f r_162.l r_162.v := row_nowT tabk_3 (by kernel_rfl)
def r_163 : Row := ⟨31, [.agg [.v (.int .i64 5), .v (.int .i64 1), .v (.int .i64 0), .v (.int .i64 1)], .agg [.v (.int .i64 9), .v (.int .i64 2), .v (.int .i64 0), .v (.int .i64 2)], .one (.v (.int .i64 12))], .s (.one (.v (.bool false)))⟩
theorem k_163 : Known Tryz.prog r_163.f r_163.l r_163.v := row_nowT tabk_3 (by kernel_rfl)
def r_164 : Row := ⟨31, [.agg [.v (.int .i64 3), .v (.int .i64 0), .v (.int .i64 0), .v (.int .i64 0)], .agg [.v (.int .i64 9), .v (.int .i64 2), .v (.int .i64 0), .v (.int .i64 2)], .one (.v (.int .i64 12))], .s (.one (.v (.bool true)))⟩
theorem k_164 : Known Tryz.prog r_164.f r_164.l r_164.v := row_nowT tabk_3 (by kernel_rfl)
def r_165 : Row := ⟨31, [.agg [.v (.int .i64 9), .v (.int .i64 2), .v (.int .i64 0), .v (.int .i64 1)], .agg [.v (.int .i64 5), .v (.int .i64 1), .v (.int .i64 0), .v (.int .i64 0)], .one (.v (.int .i64 12))], .s (.one (.v (.bool false)))⟩
theorem k_165 : Known Tryz.prog r_165.f r_165.l r_165.v := row_nowT tabk_3 (by kernel_rfl)
def r_166 : Row := ⟨31, [.agg [.v (.int .i64 3), .v (.int .i64 0), .v (.int .i64 0), .v (.int .i64 0)], .agg [.v (.int .i64 9), .v (.int .i64 2), .v (.int .i64 0), .v (.int .i64 1)], .one (.v (.int .i64 12))], .s (.one (.v (.bool true)))⟩
theorem k_166 : Known Tryz.prog r_166.f r_166.l r_166.v := row_nowT tabk_3 (by kernel_rfl)
def r_167 : Row := ⟨31, [.agg [.v (.int .i64 5), .v (.int .i64 1), .v (.int .i64 0), .v (.int .i64 1)], .agg [.v (.int .i64 5), .v (.int .i64 1), .v (.int .i64 0), .v (.int .i64 0)], .one (.v (.int .i64 15))], .s (.one (.v (.bool false)))⟩
theorem k_167 : Known Tryz.prog r_167.f r_167.l r_167.v := row_nowT tabk_3 (by kernel_rfl)
def r_168 : Row := ⟨31, [.agg [.v (.int .i64 5), .v (.int .i64 0), .v (.int .i64 0), .v (.int .i64 0)], .agg [.v (.int .i64 9), .v (.int .i64 1000), .v (.int .i64 1000), .v (.int .i64 1000)], .one (.v (.int .i64 15))], .s (.one (.v (.bool true)))⟩
theorem k_168 : Known Tryz.prog r_168.f r_168.l r_168.v := row_nowT tabk_3 (by kernel_rfl)
def r_169 : Row := ⟨31, [.agg [.v (.int .i64 3), .v (.int .i64 0), .v (.int .i64 0), .v (.int .i64 0)], .agg [.v (.int .i64 5), .v (.int .i64 0), .v (.int .i64 0), .v (.int .i64 0)], .one (.v (.int .i64 15))], .s (.one (.v (.bool false)))⟩
theorem k_169 : Known Tryz.prog r_169.f r_169.l r_169.v := row_nowT tabk_3 (by kernel_rfl)
def rs_3c : List Row := [r_156, r_157, r_158, r_159, r_160, r_161, r_162, r_163, r_164, r_165, r_166, r_167, r_168, r_169]
theorem rs_3c_k : ∀ r ∈ rs_3c, Known Tryz.prog r.f r.l r.v := List.forall_mem_cons.2 ⟨k_156, List.forall_mem_cons.2 ⟨k_157, List.forall_mem_cons.2 ⟨k_158, List.forall_mem_cons.2 ⟨k_159, List.forall_mem_cons.2 ⟨k_160, List.forall_mem_cons.2 ⟨k_161, List.forall_mem_cons.2 ⟨k_162, List.forall_mem_cons.2 ⟨k_163, List.forall_mem_cons.2 ⟨k_164, List.forall_mem_cons.2 ⟨k_165, List.forall_mem_cons.2 ⟨k_166, List.forall_mem_cons.2 ⟨k_167, List.forall_mem_cons.2 ⟨k_168, List.forall_mem_cons.2 ⟨k_169, (fun _ h => by cases h)⟩⟩⟩⟩⟩⟩⟩⟩⟩⟩⟩⟩⟩⟩
end Go.Proofs.YtmckghoaggopnabGreat.Y
