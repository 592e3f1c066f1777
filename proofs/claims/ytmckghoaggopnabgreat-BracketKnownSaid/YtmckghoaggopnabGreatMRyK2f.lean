/-
  Calls that are known, each by one run.
-/
import Derived.Test.YtmckghoaggopnabGreatMRyK2
set_option linter.all false
namespace Go.Proofs.YtmckghoaggopnabGreat.Y
open Go Go.Ry Go.RowKit
def r_125 : Row := ⟨44, [.one (.v (.int .i64 15)), .one (.v (.int .i64 1000)), .agg [.v (.int .u64 1), .v (.int .u64 0), .v (.int .u64 0), .v (.int .u64 0), .v (.int .u64 0), .v (.int .u64 0), .v (.int .u64 0), .v (.int .u64 0), .v (.int .u64 1), .v (.int .u64 0), .v (.int .u64 0), .v (.int .u64 0), .v (.int .u64 0), .v (.int .u64 0), .v (.int .u64 0), .v (.int .u64 0)]], .tup [.agg [.v (.int .u64 1000), .v (.int .u64 0), .v (.int .u64 0), .v (.int .u64 0), .v (.int .u64 0), .v (.int .u64 0), .v (.int .u64 0), .v (.int .u64 0), .v (.int .u64 1), .v (.int .u64 0), .v (.int .u64 0), .v (.int .u64 0), .v (.int .u64 0), .v (.int .u64 0), .v (.int .u64 0), .v (.int .u64 0)], .one (.v (.int .i64 0))]⟩
theorem k_125 : Known Tryz.prog r_125.f r_125.l r_125.v := row_nowT tabk_2 (by kernel_rfl)
def r_126 : Row := ⟨44, [.one (.v (.int .i64 15)), .one (.v (.int .i64 1001)), .agg [.v (.int .u64 1), .v (.int .u64 0), .v (.int .u64 0), .v (.int .u64 0), .v (.int .u64 0), .v (.int .u64 0), .v (.int .u64 0), .v (.int .u64 0), .v (.int .u64 1), .v (.int .u64 0), .v (.int .u64 0), .v (.int .u64 0), .v (.int .u64 0), .v (.int .u64 0), .v (.int .u64 0), .v (.int .u64 0)]], .tup [.agg [.v (.int .u64 1001), .v (.int .u64 0), .v (.int .u64 0), .v (.int .u64 0), .v (.int .u64 0), .v (.int .u64 0), .v (.int .u64 0), .v (.int .u64 0), .v (.int .u64 1), .v (.int .u64 0), .v (.int .u64 0), .v (.int .u64 0), .v (.int .u64 0), .v (.int .u64 0), .v (.int .u64 0), .v (.int .u64 0)], .one (.v (.int .i64 0))]⟩
theorem k_126 : Known Tryz.prog r_126.f r_126.l r_126.v := row_nowT tabk_2 (by kernel_rfl)
def r_127 : Row := ⟨44, [.one (.v (.int .i64 13)), .one (.v (.int .i64 2)), .agg [.v (.int .u64 1), .v (.int .u64 0), .v (.int .u64 0), .v (.int .u64 0), .v (.int .u64 0), .v (.int .u64 0), .v (.int .u64 0), .v (.int .u64 0), .v (.int .u64 1), .v (.int .u64 0), .v (.int .u64 0), .v (.int .u64 0), .v (.int .u64 0), .v (.int .u64 0), .v (.int .u64 0), .v (.int .u64 0)]], .tup [.agg [.v (.int .u64 4), .v (.int .u64 0), .v (.int .u64 0), .v (.int .u64 0), .v (.int .u64 0), .v (.int .u64 0), .v (.int .u64 0), .v (.int .u64 0), .v (.int .u64 1), .v (.int .u64 0), .v (.int .u64 0), .v (.int .u64 0), .v (.int .u64 0), .v (.int .u64 0), .v (.int .u64 0), .v (.int .u64 0)], .one (.v (.int .i64 0))]⟩
theorem k_127 : Known Tryz.prog r_127.f r_127.l r_127.v := row_nowT tabk_2 (by kernel_rfl)
def rs_2f : List Row := [r_125, r_126, r_127]
theorem rs_2f_k : ∀ r ∈ rs_2f, Known Tryz.prog r.f r.l r.v := List.forall_mem_cons.2 ⟨k_125, List.forall_mem_cons.2 ⟨k_126, List.forall_mem_cons.2 ⟨k_127, (fun _ h => by cases h)⟩⟩⟩
end Go.Proofs.YtmckghoaggopnabGreat.Y
