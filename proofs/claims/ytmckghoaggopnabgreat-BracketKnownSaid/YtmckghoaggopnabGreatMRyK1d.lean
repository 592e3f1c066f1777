/-
  Calls that are known, each by one run.
-/
import Derived.Test.YtmckghoaggopnabGreatMRyK1
set_option linter.all false
namespace Go.Proofs.YtmckghoaggopnabGreat.Y
open Go Go.Ry Go.RowKit
def r_43 : Row := ⟨34, [.one (.v (.int .i64 18)), .one (.v (.int .i64 5))], .tup [.agg [.v (.int .u64 18), .v (.int .u64 0), .v (.int .u64 0), .v (.int .u64 0), .v (.int .u64 0), .v (.int .u64 0), .v (.int .u64 0), .v (.int .u64 0), .v (.int .u64 5), .v (.int .u64 0), .v (.int .u64 0), .v (.int .u64 0), .v (.int .u64 0), .v (.int .u64 0), .v (.int .u64 0), .v (.int .u64 0)], .one (.v (.int .i64 0))]⟩
theorem k_43 : Known Tryz.prog r_43.f r_43.l r_43.v := row_nowT tabk_1 (by kernel_rfl)
def r_44 : Row := ⟨34, [.one (.v (.int .i64 81)), .one (.v (.int .i64 2))], .tup [.agg [.v (.int .u64 81), .v (.int .u64 0), .v (.int .u64 0), .v (.int .u64 0), .v (.int .u64 0), .v (.int .u64 0), .v (.int .u64 0), .v (.int .u64 0), .v (.int .u64 2), .v (.int .u64 0), .v (.int .u64 0), .v (.int .u64 0), .v (.int .u64 0), .v (.int .u64 0), .v (.int .u64 0), .v (.int .u64 0)], .one (.v (.int .i64 0))]⟩
theorem k_44 : Known Tryz.prog r_44.f r_44.l r_44.v := row_nowT tabk_1 (by kernel_rfl)
def r_45 : Row := ⟨34, [.one (.v (.int .i64 5)), .one (.v (.int .i64 0))], .tup [.agg [.v (.int .u64 0), .v (.int .u64 0), .v (.int .u64 0), .v (.int .u64 0), .v (.int .u64 0), .v (.int .u64 0), .v (.int .u64 0), .v (.int .u64 0), .v (.int .u64 0), .v (.int .u64 0), .v (.int .u64 0), .v (.int .u64 0), .v (.int .u64 0), .v (.int .u64 0), .v (.int .u64 0), .v (.int .u64 0)], .one (.v (.int .i64 7))]⟩
theorem k_45 : Known Tryz.prog r_45.f r_45.l r_45.v := row_nowT tabk_1 (by kernel_rfl)
def r_46 : Row := ⟨34, [.one (.v (.int .i64 10)), .one (.v (.int .i64 1))], .tup [.agg [.v (.int .u64 10), .v (.int .u64 0), .v (.int .u64 0), .v (.int .u64 0), .v (.int .u64 0), .v (.int .u64 0), .v (.int .u64 0), .v (.int .u64 0), .v (.int .u64 1), .v (.int .u64 0), .v (.int .u64 0), .v (.int .u64 0), .v (.int .u64 0), .v (.int .u64 0), .v (.int .u64 0), .v (.int .u64 0)], .one (.v (.int .i64 0))]⟩
theorem k_46 : Known Tryz.prog r_46.f r_46.l r_46.v := row_nowT tabk_1 (by kernel_rfl)
def r_47 : Row := ⟨34, [.one (.v (.int .i64 250500)), .one (.v (.int .i64 1))], .tup [.agg [.v (.int .u64 250500), .v (.int .u64 0), .v (.int .u64 0), .v (.int .u64 0), .v (.int .u64 0), .v (.int .u64 0), .v (.int .u64 0), .v (.int .u64 0), .v (.int .u64 1), .v (.int .u64 0), .v (.int .u64 0), .v (.int .u64 0), .v (.int .u64 0), .v (.int .u64 0), .v (.int .u64 0), .v (.int .u64 0)], .one (.v (.int .i64 0))]⟩
theorem k_47 : Known Tryz.prog r_47.f r_47.l r_47.v := row_nowT tabk_1 (by kernel_rfl)
def r_48 : Row := ⟨34, [.one (.v (.int .i64 62750)), .one (.v (.int .i64 1))], .tup [.agg [.v (.int .u64 62750), .v (.int .u64 0), .v (.int .u64 0), .v (.int .u64 0), .v (.int .u64 0), .v (.int .u64 0), .v (.int .u64 0), .v (.int .u64 0), .v (.int .u64 1), .v (.int .u64 0), .v (.int .u64 0), .v (.int .u64 0), .v (.int .u64 0), .v (.int .u64 0), .v (.int .u64 0), .v (.int .u64 0)], .one (.v (.int .i64 0))]⟩
theorem k_48 : Known Tryz.prog r_48.f r_48.l r_48.v := row_nowT tabk_1 (by kernel_rfl)
def r_49 : Row := ⟨34, [.one (.v (.int .i64 15750)), .one (.v (.int .i64 1))], .tup [.agg [.v (.int .u64 15750), .v (.int .u64 0), .v (.int .u64 0), .v (.int .u64 0), .v (.int .u64 0), .v (.int .u64 0), .v (.int .u64 0), .v (.int .u64 0), .v (.int .u64 1), .v (.int .u64 0), .v (.int .u64 0), .v (.int .u64 0), .v (.int .u64 0), .v (.int .u64 0), .v (.int .u64 0), .v (.int .u64 0)], .one (.v (.int .i64 0))]⟩
theorem k_49 : Known Tryz.prog r_49.f r_49.l r_49.v := row_nowT tabk_1 (by kernel_rfl)
def r_50 : Row := ⟨34, [.one (.v (.int .i64 3906)), .one (.v (.int .i64 1))], .tup [.agg [.v (.int .u64 3906), .v (.int .u64 0), .v (.int .u64 0), .v (.int .u64 0), .v (.int .u64 0), .v (.int .u64 0), .v (.int .u64 0), .v (.int .u64 0), .v (.int .u64 1), .v (.int .u64 0), .v (.int .u64 0), .v (.int .u64 0), .v (.int .u64 0), .v (.int .u64 0), .v (.int .u64 0), .v (.int .u64 0)], .one (.v (.int .i64 0))]⟩
theorem k_50 : Known Tryz.prog r_50.f r_50.l r_50.v := row_nowT tabk_1 (by kernel_rfl)
def r_51 : Row := ⟨34, [.one (.v (.int .i64 992)), .one (.v (.int .i64 1))], .tup [.agg [.v (.int .u64 992), .v (.int .u64 0), .v (.int .u64 0), .v (.int .u64 0), .v (.int .u64 0), .v (.int .u64 0), .v (.int .u64 0), .v (.int .u64 0), .v (.int .u64 1), .v (.int .u64 0), .v (.int .u64 0), .v (.int .u64 0), .v (.int .u64 0), .v (.int .u64 0), .v (.int .u64 0), .v (.int .u64 0)], .one (.v (.int .i64 0))]⟩
theorem k_51 : Known Tryz.prog r_51.f r_51.l r_51.v := row_nowT tabk_1 (by kernel_rfl)
def r_52 : Row := ⟨34, [.one (.v (.int .i64 240)), .one (.v (.int .i64 1))], .tup [.agg [.v (.int .u64 240), .v (.int .u64 0), .v (.int .u64 0), .v (.int .u64 0), .v (.int .u64 0), .v (.int .u64 0), .v (.int .u64 0), .v (.int .u64 0), .v (.int .u64 1), .v (.int .u64 0), .v (.int .u64 0), .v (.int .u64 0), .v (.int .u64 0), .v (.int .u64 0), .v (.int .u64 0), .v (.int .u64 0)], .one (.v (.int .i64 0))]⟩
theorem k_52 : Known Tryz.prog r_52.f r_52.l r_52.v := row_nowT tabk_1 (by kernel_rfl)
def r_53 : Row := ⟨34, [.one (.v (.int .i64 56)), .one (.v (.int .i64 1))], .tup [.agg [.v (.int .u64 56), .v (.int .u64 0), .v (.int .u64 0), .v (.int .u64 0), .v (.int .u64 0), .v (.int .u64 0), .v (.int .u64 0), .v (.int .u64 0), .v (.int .u64 1), .v (.int .u64 0), .v (.int .u64 0), .v (.int .u64 0), .v (.int .u64 0), .v (.int .u64 0), .v (.int .u64 0), .v (.int .u64 0)], .one (.v (.int .i64 0))]⟩
theorem k_53 : Known Tryz.prog r_53.f r_53.l r_53.v := row_nowT tabk_1 (by kernel_rfl)
def r_54 : Row := ⟨34, [.one (.v (.int .i64 12)), .one (.v (.int .i64 1))], .tup [.agg [.v (.int .u64 12), .v (.int .u64 0), .v (.int .u64 0), .v (.int .u64 0), .v (.int .u64 0), .v (.int .u64 0), .v (.int .u64 0), .v (.int .u64 0), .v (.int .u64 1), .v (.int .u64 0), .v (.int .u64 0), .v (.int .u64 0), .v (.int .u64 0), .v (.int .u64 0), .v (.int .u64 0), .v (.int .u64 0)], .one (.v (.int .i64 0))]⟩
theorem k_54 : Known Tryz.prog r_54.f r_54.l r_54.v := row_nowT tabk_1 (by kernel_rfl)
def rs_1d : List Row := [r_43, r_44, r_45, r_46, r_47, r_48, r_49, r_50, r_51, r_52, r_53, r_54]
theorem rs_1d_k : ∀ r ∈ rs_1d, Known Tryz.prog r.f r.l r.v := List.forall_mem_cons.2 ⟨k_43, List.forall_mem_cons.2 ⟨k_44, List.forall_mem_cons.2 ⟨k_45, List.forall_mem_cons.2 ⟨k_46, List.forall_mem_cons.2 ⟨k_47, List.forall_mem_cons.2 ⟨k_48, List.forall_mem_cons.2 ⟨k_49, List.forall_mem_cons.2 ⟨k_50, List.forall_mem_cons.2 ⟨k_51, List.forall_mem_cons.2 ⟨k_52, List.forall_mem_cons.2 ⟨k_53, List.forall_mem_cons.2 ⟨k_54, (fun _ h => by cases h)⟩⟩⟩⟩⟩⟩⟩⟩⟩⟩⟩⟩
end Go.Proofs.YtmckghoaggopnabGreat.Y
