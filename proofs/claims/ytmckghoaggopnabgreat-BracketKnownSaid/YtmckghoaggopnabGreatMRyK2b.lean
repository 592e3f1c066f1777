/-
  Calls that are known, each by one run.
-/
import Derived.Test.YtmckghoaggopnabGreatMRyK2
set_option linter.all false
namespace Go.Proofs.YtmckghoaggopnabGreat.Y
open Go Go.Ry Go.RowKit
def r_69 : Row := ⟨55, [.one (.v (.int .i64 11)), .one (.v (.int .i64 9)), .one (.v (.int .i64 2))], .tup [.agg [.v (.int .u64 9), .v (.int .u64 0), .v (.int .u64 0), .v (.int .u64 0), .v (.int .u64 0), .v (.int .u64 0), .v (.int .u64 0), .v (.int .u64 0), .v (.int .u64 2), .v (.int .u64 0), .v (.int .u64 0), .v (.int .u64 0), .v (.int .u64 0), .v (.int .u64 0), .v (.int .u64 0), .v (.int .u64 0)], .one (.v (.int .i64 0))]⟩
theorem k_69 : Known Tryz.prog r_69.f r_69.l r_69.v := row_nowT tabk_2 (by kernel_rfl)
def r_70 : Row := ⟨55, [.one (.v (.int .i64 11)), .one (.v (.int .i64 5)), .one (.v (.int .i64 1))], .tup [.agg [.v (.int .u64 5), .v (.int .u64 0), .v (.int .u64 0), .v (.int .u64 0), .v (.int .u64 0), .v (.int .u64 0), .v (.int .u64 0), .v (.int .u64 0), .v (.int .u64 1), .v (.int .u64 0), .v (.int .u64 0), .v (.int .u64 0), .v (.int .u64 0), .v (.int .u64 0), .v (.int .u64 0), .v (.int .u64 0)], .one (.v (.int .i64 0))]⟩
theorem k_70 : Known Tryz.prog r_70.f r_70.l r_70.v := row_nowT tabk_2 (by kernel_rfl)
def r_71 : Row := ⟨55, [.one (.v (.int .i64 14)), .one (.v (.int .i64 9)), .one (.v (.int .i64 2))], .tup [.agg [.v (.int .u64 18), .v (.int .u64 0), .v (.int .u64 0), .v (.int .u64 0), .v (.int .u64 0), .v (.int .u64 0), .v (.int .u64 0), .v (.int .u64 0), .v (.int .u64 5), .v (.int .u64 0), .v (.int .u64 0), .v (.int .u64 0), .v (.int .u64 0), .v (.int .u64 0), .v (.int .u64 0), .v (.int .u64 0)], .one (.v (.int .i64 0))]⟩
theorem k_71 : Known Tryz.prog r_71.f r_71.l r_71.v := row_nowT tabk_2 (by kernel_rfl)
def r_72 : Row := ⟨55, [.one (.v (.int .i64 13)), .one (.v (.int .i64 9)), .one (.v (.int .i64 1))], .tup [.agg [.v (.int .u64 81), .v (.int .u64 0), .v (.int .u64 0), .v (.int .u64 0), .v (.int .u64 0), .v (.int .u64 0), .v (.int .u64 0), .v (.int .u64 0), .v (.int .u64 2), .v (.int .u64 0), .v (.int .u64 0), .v (.int .u64 0), .v (.int .u64 0), .v (.int .u64 0), .v (.int .u64 0), .v (.int .u64 0)], .one (.v (.int .i64 0))]⟩
theorem k_72 : Known Tryz.prog r_72.f r_72.l r_72.v := row_nowT tabk_2 (by kernel_rfl)
def r_73 : Row := ⟨55, [.one (.v (.int .i64 13)), .one (.v (.int .i64 3)), .one (.v (.int .i64 0))], .tup [.agg [.v (.int .u64 0), .v (.int .u64 0), .v (.int .u64 0), .v (.int .u64 0), .v (.int .u64 0), .v (.int .u64 0), .v (.int .u64 0), .v (.int .u64 0), .v (.int .u64 0), .v (.int .u64 0), .v (.int .u64 0), .v (.int .u64 0), .v (.int .u64 0), .v (.int .u64 0), .v (.int .u64 0), .v (.int .u64 0)], .one (.v (.int .i64 7))]⟩
theorem k_73 : Known Tryz.prog r_73.f r_73.l r_73.v := row_nowT tabk_2 (by kernel_rfl)
def r_74 : Row := ⟨55, [.one (.v (.int .i64 11)), .one (.v (.int .i64 3)), .one (.v (.int .i64 0))], .tup [.agg [.v (.int .u64 0), .v (.int .u64 0), .v (.int .u64 0), .v (.int .u64 0), .v (.int .u64 0), .v (.int .u64 0), .v (.int .u64 0), .v (.int .u64 0), .v (.int .u64 0), .v (.int .u64 0), .v (.int .u64 0), .v (.int .u64 0), .v (.int .u64 0), .v (.int .u64 0), .v (.int .u64 0), .v (.int .u64 0)], .one (.v (.int .i64 7))]⟩
theorem k_74 : Known Tryz.prog r_74.f r_74.l r_74.v := row_nowT tabk_2 (by kernel_rfl)
def r_75 : Row := ⟨55, [.one (.v (.int .i64 11)), .one (.v (.int .i64 5)), .one (.v (.int .i64 0))], .tup [.agg [.v (.int .u64 0), .v (.int .u64 0), .v (.int .u64 0), .v (.int .u64 0), .v (.int .u64 0), .v (.int .u64 0), .v (.int .u64 0), .v (.int .u64 0), .v (.int .u64 0), .v (.int .u64 0), .v (.int .u64 0), .v (.int .u64 0), .v (.int .u64 0), .v (.int .u64 0), .v (.int .u64 0), .v (.int .u64 0)], .one (.v (.int .i64 7))]⟩
theorem k_75 : Known Tryz.prog r_75.f r_75.l r_75.v := row_nowT tabk_2 (by kernel_rfl)
def r_76 : Row := ⟨55, [.one (.v (.int .i64 14)), .one (.v (.int .i64 5)), .one (.v (.int .i64 0))], .tup [.agg [.v (.int .u64 10), .v (.int .u64 0), .v (.int .u64 0), .v (.int .u64 0), .v (.int .u64 0), .v (.int .u64 0), .v (.int .u64 0), .v (.int .u64 0), .v (.int .u64 1), .v (.int .u64 0), .v (.int .u64 0), .v (.int .u64 0), .v (.int .u64 0), .v (.int .u64 0), .v (.int .u64 0), .v (.int .u64 0)], .one (.v (.int .i64 0))]⟩
theorem k_76 : Known Tryz.prog r_76.f r_76.l r_76.v := row_nowT tabk_2 (by kernel_rfl)
def r_77 : Row := ⟨55, [.one (.v (.int .i64 11)), .one (.v (.int .i64 9)), .one (.v (.int .i64 0))], .tup [.agg [.v (.int .u64 0), .v (.int .u64 0), .v (.int .u64 0), .v (.int .u64 0), .v (.int .u64 0), .v (.int .u64 0), .v (.int .u64 0), .v (.int .u64 0), .v (.int .u64 0), .v (.int .u64 0), .v (.int .u64 0), .v (.int .u64 0), .v (.int .u64 0), .v (.int .u64 0), .v (.int .u64 0), .v (.int .u64 0)], .one (.v (.int .i64 7))]⟩
theorem k_77 : Known Tryz.prog r_77.f r_77.l r_77.v := row_nowT tabk_2 (by kernel_rfl)
def r_78 : Row := ⟨55, [.one (.v (.int .i64 12)), .one (.v (.int .i64 3)), .one (.v (.int .i64 0))], .tup [.agg [.v (.int .u64 0), .v (.int .u64 0), .v (.int .u64 0), .v (.int .u64 0), .v (.int .u64 0), .v (.int .u64 0), .v (.int .u64 0), .v (.int .u64 0), .v (.int .u64 0), .v (.int .u64 0), .v (.int .u64 0), .v (.int .u64 0), .v (.int .u64 0), .v (.int .u64 0), .v (.int .u64 0), .v (.int .u64 0)], .one (.v (.int .i64 7))]⟩
theorem k_78 : Known Tryz.prog r_78.f r_78.l r_78.v := row_nowT tabk_2 (by kernel_rfl)
def r_79 : Row := ⟨55, [.one (.v (.int .i64 11)), .one (.v (.int .i64 5)), .one (.v (.int .i64 2))], .tup [.agg [.v (.int .u64 5), .v (.int .u64 0), .v (.int .u64 0), .v (.int .u64 0), .v (.int .u64 0), .v (.int .u64 0), .v (.int .u64 0), .v (.int .u64 0), .v (.int .u64 2), .v (.int .u64 0), .v (.int .u64 0), .v (.int .u64 0), .v (.int .u64 0), .v (.int .u64 0), .v (.int .u64 0), .v (.int .u64 0)], .one (.v (.int .i64 0))]⟩
theorem k_79 : Known Tryz.prog r_79.f r_79.l r_79.v := row_nowT tabk_2 (by kernel_rfl)
def r_80 : Row := ⟨54, [.one (.v (.int .i64 14)), .one (.v (.int .i64 9)), .one (.v (.int .i64 1)), .one (.v (.int .i64 5)), .one (.v (.int .i64 0))], .tup [.one (.v (.int .i64 (-1))), .one (.v (.int .i64 0))]⟩
theorem k_80 : Known Tryz.prog r_80.f r_80.l r_80.v := row_nowT tabk_2 (by kernel_rfl)
def r_81 : Row := ⟨54, [.one (.v (.int .i64 14)), .one (.v (.int .i64 5)), .one (.v (.int .i64 1)), .one (.v (.int .i64 9)), .one (.v (.int .i64 1))], .tup [.one (.v (.int .i64 (-1))), .one (.v (.int .i64 0))]⟩
theorem k_81 : Known Tryz.prog r_81.f r_81.l r_81.v := row_nowT tabk_2 (by kernel_rfl)
def r_82 : Row := ⟨54, [.one (.v (.int .i64 14)), .one (.v (.int .i64 3)), .one (.v (.int .i64 3)), .one (.v (.int .i64 9)), .one (.v (.int .i64 1))], .tup [.one (.v (.int .i64 (-1))), .one (.v (.int .i64 0))]⟩
theorem k_82 : Known Tryz.prog r_82.f r_82.l r_82.v := row_nowT tabk_2 (by kernel_rfl)
def rs_2b : List Row := [r_69, r_70, r_71, r_72, r_73, r_74, r_75, r_76, r_77, r_78, r_79, r_80, r_81, r_82]
theorem rs_2b_k : ∀ r ∈ rs_2b, Known Tryz.prog r.f r.l r.v := List.forall_mem_cons.2 ⟨k_69, List.forall_mem_cons.2 ⟨k_70, List.forall_mem_cons.2 ⟨k_71, List.forall_mem_cons.2 ⟨k_72, List.forall_mem_cons.2 ⟨k_73, List.forall_mem_cons.2 ⟨k_74, List.forall_mem_cons.2 ⟨k_75, List.forall_mem_cons.2 ⟨k_76, List.forall_mem_cons.2 ⟨k_77, List.forall_mem_cons.2 ⟨k_78, List.forall_mem_cons.2 ⟨k_79, List.forall_mem_cons.2 ⟨k_80, List.forall_mem_cons.2 ⟨k_81, List.forall_mem_cons.2 ⟨k_82, (fun _ h => by cases h)⟩⟩⟩⟩⟩⟩⟩⟩⟩⟩⟩⟩⟩⟩
end Go.Proofs.YtmckghoaggopnabGreat.Y
