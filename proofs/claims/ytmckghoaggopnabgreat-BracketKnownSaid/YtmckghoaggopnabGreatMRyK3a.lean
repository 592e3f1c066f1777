/-
  Calls that are known, each by one run.
-/
import Derived.Test.YtmckghoaggopnabGreatMRyK3
set_option linter.all false
namespace Go.Proofs.YtmckghoaggopnabGreat.Y
open Go Go.Ry Go.RowKit
def r_128 : Row := ⟨31, [.agg [.v (.int .i64 5), .v (.int .i64 1), .v (.int .i64 0), .v (.int .i64 1)], .agg [.v (.int .i64 9), .v (.int .i64 1), .v (.int .i64 0), .v (.int .i64 1)], .one (.v (.int .i64 14))], .s (.one (.v (.bool false)))⟩
theorem k_128 : Known Tryz.prog r_128.f r_128.l r_128.v := row_nowT tabk_3 (by kernel_rfl)
def r_129 : Row := ⟨31, [.agg [.v (.int .i64 9), .v (.int .i64 1), .v (.int .i64 0), .v (.int .i64 0)], .agg [.v (.int .i64 5), .v (.int .i64 1), .v (.int .i64 0), .v (.int .i64 0)], .one (.v (.int .i64 14))], .s (.one (.v (.bool true)))⟩
theorem k_129 : Known Tryz.prog r_129.f r_129.l r_129.v := row_nowT tabk_3 (by kernel_rfl)
def r_130 : Row := ⟨31, [.agg [.v (.int .i64 5), .v (.int .i64 1), .v (.int .i64 0), .v (.int .i64 1)], .agg [.v (.int .i64 9), .v (.int .i64 3), .v (.int .i64 0), .v (.int .i64 3)], .one (.v (.int .i64 15))], .s (.one (.v (.bool true)))⟩
theorem k_130 : Known Tryz.prog r_130.f r_130.l r_130.v := row_nowT tabk_3 (by kernel_rfl)
def r_131 : Row := ⟨31, [.agg [.v (.int .i64 3), .v (.int .i64 1), .v (.int .i64 0), .v (.int .i64 1)], .agg [.v (.int .i64 5), .v (.int .i64 1), .v (.int .i64 0), .v (.int .i64 1)], .one (.v (.int .i64 15))], .s (.one (.v (.bool false)))⟩
theorem k_131 : Known Tryz.prog r_131.f r_131.l r_131.v := row_nowT tabk_3 (by kernel_rfl)
def r_132 : Row := ⟨31, [.agg [.v (.int .i64 9), .v (.int .i64 3), .v (.int .i64 0), .v (.int .i64 2)], .agg [.v (.int .i64 5), .v (.int .i64 1), .v (.int .i64 0), .v (.int .i64 0)], .one (.v (.int .i64 15))], .s (.one (.v (.bool false)))⟩
theorem k_132 : Known Tryz.prog r_132.f r_132.l r_132.v := row_nowT tabk_3 (by kernel_rfl)
def r_133 : Row := ⟨31, [.agg [.v (.int .i64 9), .v (.int .i64 3), .v (.int .i64 0), .v (.int .i64 2)], .agg [.v (.int .i64 3), .v (.int .i64 1), .v (.int .i64 0), .v (.int .i64 0)], .one (.v (.int .i64 15))], .s (.one (.v (.bool false)))⟩
theorem k_133 : Known Tryz.prog r_133.f r_133.l r_133.v := row_nowT tabk_3 (by kernel_rfl)
def r_134 : Row := ⟨31, [.agg [.v (.int .i64 5), .v (.int .i64 1), .v (.int .i64 0), .v (.int .i64 1)], .agg [.v (.int .i64 9), .v (.int .i64 3), .v (.int .i64 0), .v (.int .i64 2)], .one (.v (.int .i64 15))], .s (.one (.v (.bool false)))⟩
theorem k_134 : Known Tryz.prog r_134.f r_134.l r_134.v := row_nowT tabk_3 (by kernel_rfl)
def r_135 : Row := ⟨31, [.agg [.v (.int .i64 5), .v (.int .i64 2), .v (.int .i64 0), .v (.int .i64 2)], .agg [.v (.int .i64 9), .v (.int .i64 2), .v (.int .i64 0), .v (.int .i64 2)], .one (.v (.int .i64 11))], .s (.one (.v (.bool false)))⟩
theorem k_135 : Known Tryz.prog r_135.f r_135.l r_135.v := row_nowT tabk_3 (by kernel_rfl)
def r_136 : Row := ⟨31, [.agg [.v (.int .i64 3), .v (.int .i64 1), .v (.int .i64 0), .v (.int .i64 1)], .agg [.v (.int .i64 9), .v (.int .i64 2), .v (.int .i64 0), .v (.int .i64 2)], .one (.v (.int .i64 11))], .s (.one (.v (.bool false)))⟩
theorem k_136 : Known Tryz.prog r_136.f r_136.l r_136.v := row_nowT tabk_3 (by kernel_rfl)
def r_137 : Row := ⟨31, [.agg [.v (.int .i64 9), .v (.int .i64 2), .v (.int .i64 0), .v (.int .i64 1)], .agg [.v (.int .i64 5), .v (.int .i64 2), .v (.int .i64 0), .v (.int .i64 1)], .one (.v (.int .i64 11))], .s (.one (.v (.bool true)))⟩
theorem k_137 : Known Tryz.prog r_137.f r_137.l r_137.v := row_nowT tabk_3 (by kernel_rfl)
def r_138 : Row := ⟨31, [.agg [.v (.int .i64 5), .v (.int .i64 2), .v (.int .i64 0), .v (.int .i64 1)], .agg [.v (.int .i64 3), .v (.int .i64 1), .v (.int .i64 0), .v (.int .i64 0)], .one (.v (.int .i64 11))], .s (.one (.v (.bool false)))⟩
theorem k_138 : Known Tryz.prog r_138.f r_138.l r_138.v := row_nowT tabk_3 (by kernel_rfl)
def r_139 : Row := ⟨31, [.agg [.v (.int .i64 9), .v (.int .i64 2), .v (.int .i64 0), .v (.int .i64 2)], .agg [.v (.int .i64 5), .v (.int .i64 2), .v (.int .i64 0), .v (.int .i64 1)], .one (.v (.int .i64 11))], .s (.one (.v (.bool false)))⟩
theorem k_139 : Known Tryz.prog r_139.f r_139.l r_139.v := row_nowT tabk_3 (by kernel_rfl)
def r_140 : Row := ⟨31, [.agg [.v (.int .i64 5), .v (.int .i64 1), .v (.int .i64 0), .v (.int .i64 1)], .agg [.v (.int .i64 9), .v (.int .i64 2), .v (.int .i64 0), .v (.int .i64 2)], .one (.v (.int .i64 14))], .s (.one (.v (.bool false)))⟩
theorem k_140 : Known Tryz.prog r_140.f r_140.l r_140.v := row_nowT tabk_3 (by kernel_rfl)
def r_141 : Row := ⟨31, [.agg [.v (.int .i64 3), .v (.int .i64 1), .v (.int .i64 0), .v (.int .i64 1)], .agg [.v (.int .i64 9), .v (.int .i64 2), .v (.int .i64 0), .v (.int .i64 2)], .one (.v (.int .i64 14))], .s (.one (.v (.bool false)))⟩
theorem k_141 : Known Tryz.prog r_141.f r_141.l r_141.v := row_nowT tabk_3 (by kernel_rfl)
def rs_3a : List Row := [r_128, r_129, r_130, r_131, r_132, r_133, r_134, r_135, r_136, r_137, r_138, r_139, r_140, r_141]
theorem rs_3a_k : ∀ r ∈ rs_3a, Known Tryz.prog r.f r.l r.v := List.forall_mem_cons.2 ⟨k_128, List.forall_mem_cons.2 ⟨k_129, List.forall_mem_cons.2 ⟨k_130, List.forall_mem_cons.2 ⟨k_131, List.forall_mem_cons.2 ⟨k_132, List.forall_mem_cons.2 ⟨k_133, List.forall_mem_cons.2 ⟨k_134, List.forall_mem_cons.2 ⟨k_135, List.forall_mem_cons.2 ⟨k_136, List.forall_mem_cons.2 ⟨k_137, List.forall_mem_cons.2 ⟨k_138, List.forall_mem_cons.2 ⟨k_139, List.forall_mem_cons.2 ⟨k_140, List.forall_mem_cons.2 ⟨k_141, (fun _ h => by cases h)⟩⟩⟩⟩⟩⟩⟩⟩⟩⟩⟩⟩⟩⟩
end Go.Proofs.YtmckghoaggopnabGreat.Y
