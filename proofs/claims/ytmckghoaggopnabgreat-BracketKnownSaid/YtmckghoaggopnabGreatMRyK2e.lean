/-
  Calls that are known, each by one run.
-/
import Derived.Test.YtmckghoaggopnabGreatMRyK2
set_option linter.all false
namespace Go.Proofs.YtmckghoaggopnabGreat.Y
open Go Go.Ry Go.RowKit
def r_111 : Row := ⟨54, [.one (.v (.int .i64 11)), .one (.v (.int .i64 5)), .one (.v (.int .i64 0)), .one (.v (.int .i64 3)), .one (.v (.int .i64 0))], .tup [.one (.v (.int .i64 1)), .one (.v (.int .i64 0))]⟩
theorem k_111 : Known Tryz.prog r_111.f r_111.l r_111.v := row_nowT tabk_2 (by kernel_rfl)
def r_112 : Row := ⟨54, [.one (.v (.int .i64 11)), .one (.v (.int .i64 9)), .one (.v (.int .i64 0)), .one (.v (.int .i64 3)), .one (.v (.int .i64 0))], .tup [.one (.v (.int .i64 1)), .one (.v (.int .i64 0))]⟩
theorem k_112 : Known Tryz.prog r_112.f r_112.l r_112.v := row_nowT tabk_2 (by kernel_rfl)
def r_113 : Row := ⟨54, [.one (.v (.int .i64 12)), .one (.v (.int .i64 5)), .one (.v (.int .i64 1)), .one (.v (.int .i64 9)), .one (.v (.int .i64 2))], .tup [.one (.v (.int .i64 0)), .one (.v (.int .i64 0))]⟩
theorem k_113 : Known Tryz.prog r_113.f r_113.l r_113.v := row_nowT tabk_2 (by kernel_rfl)
def r_114 : Row := ⟨54, [.one (.v (.int .i64 12)), .one (.v (.int .i64 3)), .one (.v (.int .i64 0)), .one (.v (.int .i64 9)), .one (.v (.int .i64 2))], .tup [.one (.v (.int .i64 1)), .one (.v (.int .i64 0))]⟩
theorem k_114 : Known Tryz.prog r_114.f r_114.l r_114.v := row_nowT tabk_2 (by kernel_rfl)
def r_115 : Row := ⟨54, [.one (.v (.int .i64 12)), .one (.v (.int .i64 9)), .one (.v (.int .i64 1)), .one (.v (.int .i64 5)), .one (.v (.int .i64 0))], .tup [.one (.v (.int .i64 (-1))), .one (.v (.int .i64 0))]⟩
theorem k_115 : Known Tryz.prog r_115.f r_115.l r_115.v := row_nowT tabk_2 (by kernel_rfl)
def r_116 : Row := ⟨54, [.one (.v (.int .i64 12)), .one (.v (.int .i64 3)), .one (.v (.int .i64 0)), .one (.v (.int .i64 9)), .one (.v (.int .i64 1))], .tup [.one (.v (.int .i64 1)), .one (.v (.int .i64 0))]⟩
theorem k_116 : Known Tryz.prog r_116.f r_116.l r_116.v := row_nowT tabk_2 (by kernel_rfl)
def r_117 : Row := ⟨54, [.one (.v (.int .i64 15)), .one (.v (.int .i64 5)), .one (.v (.int .i64 1)), .one (.v (.int .i64 5)), .one (.v (.int .i64 0))], .tup [.one (.v (.int .i64 (-1))), .one (.v (.int .i64 0))]⟩
theorem k_117 : Known Tryz.prog r_117.f r_117.l r_117.v := row_nowT tabk_2 (by kernel_rfl)
def r_118 : Row := ⟨54, [.one (.v (.int .i64 15)), .one (.v (.int .i64 5)), .one (.v (.int .i64 0)), .one (.v (.int .i64 9)), .one (.v (.int .i64 1000))], .tup [.one (.v (.int .i64 1)), .one (.v (.int .i64 0))]⟩
theorem k_118 : Known Tryz.prog r_118.f r_118.l r_118.v := row_nowT tabk_2 (by kernel_rfl)
def r_119 : Row := ⟨54, [.one (.v (.int .i64 15)), .one (.v (.int .i64 3)), .one (.v (.int .i64 0)), .one (.v (.int .i64 5)), .one (.v (.int .i64 0))], .tup [.one (.v (.int .i64 (-1))), .one (.v (.int .i64 0))]⟩
theorem k_119 : Known Tryz.prog r_119.f r_119.l r_119.v := row_nowT tabk_2 (by kernel_rfl)
def r_120 : Row := ⟨44, [.one (.v (.int .i64 14)), .one (.v (.int .i64 9)), .agg [.v (.int .u64 6), .v (.int .u64 0), .v (.int .u64 0), .v (.int .u64 0), .v (.int .u64 0), .v (.int .u64 0), .v (.int .u64 0), .v (.int .u64 0), .v (.int .u64 1), .v (.int .u64 0), .v (.int .u64 0), .v (.int .u64 0), .v (.int .u64 0), .v (.int .u64 0), .v (.int .u64 0), .v (.int .u64 0)]], .tup [.agg [.v (.int .u64 3), .v (.int .u64 0), .v (.int .u64 0), .v (.int .u64 0), .v (.int .u64 0), .v (.int .u64 0), .v (.int .u64 0), .v (.int .u64 0), .v (.int .u64 2), .v (.int .u64 0), .v (.int .u64 0), .v (.int .u64 0), .v (.int .u64 0), .v (.int .u64 0), .v (.int .u64 0), .v (.int .u64 0)], .one (.v (.int .i64 0))]⟩
theorem k_120 : Known Tryz.prog r_120.f r_120.l r_120.v := row_nowT tabk_2 (by kernel_rfl)
def r_121 : Row := ⟨44, [.one (.v (.int .i64 14)), .one (.v (.int .i64 5)), .agg [.v (.int .u64 6), .v (.int .u64 0), .v (.int .u64 0), .v (.int .u64 0), .v (.int .u64 0), .v (.int .u64 0), .v (.int .u64 0), .v (.int .u64 0), .v (.int .u64 1), .v (.int .u64 0), .v (.int .u64 0), .v (.int .u64 0), .v (.int .u64 0), .v (.int .u64 0), .v (.int .u64 0), .v (.int .u64 0)]], .tup [.agg [.v (.int .u64 5), .v (.int .u64 0), .v (.int .u64 0), .v (.int .u64 0), .v (.int .u64 0), .v (.int .u64 0), .v (.int .u64 0), .v (.int .u64 0), .v (.int .u64 6), .v (.int .u64 0), .v (.int .u64 0), .v (.int .u64 0), .v (.int .u64 0), .v (.int .u64 0), .v (.int .u64 0), .v (.int .u64 0)], .one (.v (.int .i64 0))]⟩
theorem k_121 : Known Tryz.prog r_121.f r_121.l r_121.v := row_nowT tabk_2 (by kernel_rfl)
def r_122 : Row := ⟨44, [.one (.v (.int .i64 14)), .one (.v (.int .i64 3)), .agg [.v (.int .u64 6), .v (.int .u64 0), .v (.int .u64 0), .v (.int .u64 0), .v (.int .u64 0), .v (.int .u64 0), .v (.int .u64 0), .v (.int .u64 0), .v (.int .u64 1), .v (.int .u64 0), .v (.int .u64 0), .v (.int .u64 0), .v (.int .u64 0), .v (.int .u64 0), .v (.int .u64 0), .v (.int .u64 0)]], .tup [.agg [.v (.int .u64 1), .v (.int .u64 0), .v (.int .u64 0), .v (.int .u64 0), .v (.int .u64 0), .v (.int .u64 0), .v (.int .u64 0), .v (.int .u64 0), .v (.int .u64 2), .v (.int .u64 0), .v (.int .u64 0), .v (.int .u64 0), .v (.int .u64 0), .v (.int .u64 0), .v (.int .u64 0), .v (.int .u64 0)], .one (.v (.int .i64 0))]⟩
theorem k_122 : Known Tryz.prog r_122.f r_122.l r_122.v := row_nowT tabk_2 (by kernel_rfl)
def r_123 : Row := ⟨44, [.one (.v (.int .i64 15)), .one (.v (.int .i64 9)), .agg [.v (.int .u64 1), .v (.int .u64 0), .v (.int .u64 0), .v (.int .u64 0), .v (.int .u64 0), .v (.int .u64 0), .v (.int .u64 0), .v (.int .u64 0), .v (.int .u64 200), .v (.int .u64 0), .v (.int .u64 0), .v (.int .u64 0), .v (.int .u64 0), .v (.int .u64 0), .v (.int .u64 0), .v (.int .u64 0)]], .tup [.agg [.v (.int .u64 1800), .v (.int .u64 0), .v (.int .u64 0), .v (.int .u64 0), .v (.int .u64 0), .v (.int .u64 0), .v (.int .u64 0), .v (.int .u64 0), .v (.int .u64 1), .v (.int .u64 0), .v (.int .u64 0), .v (.int .u64 0), .v (.int .u64 0), .v (.int .u64 0), .v (.int .u64 0), .v (.int .u64 0)], .one (.v (.int .i64 0))]⟩
theorem k_123 : Known Tryz.prog r_123.f r_123.l r_123.v := row_nowT tabk_2 (by kernel_rfl)
def r_124 : Row := ⟨44, [.one (.v (.int .i64 13)), .one (.v (.int .i64 9)), .agg [.v (.int .u64 0), .v (.int .u64 0), .v (.int .u64 0), .v (.int .u64 0), .v (.int .u64 1), .v (.int .u64 0), .v (.int .u64 0), .v (.int .u64 0), .v (.int .u64 1), .v (.int .u64 0), .v (.int .u64 0), .v (.int .u64 0), .v (.int .u64 0), .v (.int .u64 0), .v (.int .u64 0), .v (.int .u64 0)]], .tup [.agg [.v (.int .u64 0), .v (.int .u64 0), .v (.int .u64 0), .v (.int .u64 0), .v (.int .u64 0), .v (.int .u64 0), .v (.int .u64 0), .v (.int .u64 0), .v (.int .u64 0), .v (.int .u64 0), .v (.int .u64 0), .v (.int .u64 0), .v (.int .u64 0), .v (.int .u64 0), .v (.int .u64 0), .v (.int .u64 0)], .one (.v (.int .i64 6))]⟩
theorem k_124 : Known Tryz.prog r_124.f r_124.l r_124.v := row_nowT tabk_2 (by kernel_rfl)
def rs_2e : List Row := [r_111, r_112, r_113, r_114, r_115, r_116, r_117, r_118, r_119, r_120, r_121, r_122, r_123, r_124]
theorem rs_2e_k : ∀ r ∈ rs_2e, Known Tryz.prog r.f r.l r.v := List.forall_mem_cons.2 ⟨k_111, List.forall_mem_cons.2 ⟨k_112, List.forall_mem_cons.2 ⟨k_113, List.forall_mem_cons.2 ⟨k_114, List.forall_mem_cons.2 ⟨k_115, List.forall_mem_cons.2 ⟨k_116, List.forall_mem_cons.2 ⟨k_117, List.forall_mem_cons.2 ⟨k_118, List.forall_mem_cons.2 ⟨k_119, List.forall_mem_cons.2 ⟨k_120, List.forall_mem_cons.2 ⟨k_121, List.forall_mem_cons.2 ⟨k_122, List.forall_mem_cons.2 ⟨k_123, List.forall_mem_cons.2 ⟨k_124, (fun _ h => by cases h)⟩⟩⟩⟩⟩⟩⟩⟩⟩⟩⟩⟩⟩⟩
end Go.Proofs.YtmckghoaggopnabGreat.Y
