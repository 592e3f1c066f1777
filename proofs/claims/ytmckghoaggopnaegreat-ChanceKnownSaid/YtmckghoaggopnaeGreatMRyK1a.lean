/-
  Calls that are known, each by one run.
-/
import Derived.Test.YtmckghoaggopnaeGreatMRyK1
set_option linter.all false
namespace Go.Proofs.YtmckghoaggopnaeGreat.Y
open Go Go.Ry Go.RowKit
def r_1 : Row := ⟨48, [.agg [.v (.int .u64 0), .v (.int .u64 0), .v (.int .u64 0), .v (.int .u64 0), .v (.int .u64 0), .v (.int .u64 0), .v (.int .u64 0), .v (.int .u64 0)], .agg [.v (.int .u64 0), .v (.int .u64 0), .v (.int .u64 0), .v (.int .u64 0), .v (.int .u64 0), .v (.int .u64 0), .v (.int .u64 0), .v (.int .u64 0)]], .tup [.agg [.v (.int .u64 0), .v (.int .u64 0), .v (.int .u64 0), .v (.int .u64 0), .v (.int .u64 0), .v (.int .u64 0), .v (.int .u64 0), .v (.int .u64 0)], .one (.v (.int .i64 0))]⟩
set_option maxRecDepth 1000000 in
theorem k_1 : Known Tryz.prog r_1.f r_1.l r_1.v := row_nowT tabk_1 (by kernel_rfl)
def r_2 : Row := ⟨19, [.agg [.v (.int .u64 0), .v (.int .u64 0), .v (.int .u64 0), .v (.int .u64 0), .v (.int .u64 0), .v (.int .u64 0), .v (.int .u64 0), .v (.int .u64 0)]], .s (.one (.v (.int .i64 0)))⟩
set_option maxRecDepth 1000000 in
theorem k_2 : Known Tryz.prog r_2.f r_2.l r_2.v := row_nowT tabk_1 (by kernel_rfl)
def r_3 : Row := ⟨19, [.agg [.v (.int .u64 1), .v (.int .u64 0), .v (.int .u64 0), .v (.int .u64 0), .v (.int .u64 0), .v (.int .u64 0), .v (.int .u64 0), .v (.int .u64 0)]], .s (.one (.v (.int .i64 1)))⟩
set_option maxRecDepth 1000000 in
theorem k_3 : Known Tryz.prog r_3.f r_3.l r_3.v := row_nowT tabk_1 (by kernel_rfl)
def rs_1a : List Row := [r_1, r_2, r_3]
theorem rs_1a_k : ∀ r ∈ rs_1a, Known Tryz.prog r.f r.l r.v := List.forall_mem_cons.2 ⟨k_1, List.forall_mem_cons.2 ⟨k_2, List.forall_mem_cons.2 ⟨k_3, (fun _ h => by cases h)⟩⟩⟩
end Go.Proofs.YtmckghoaggopnaeGreat.Y
