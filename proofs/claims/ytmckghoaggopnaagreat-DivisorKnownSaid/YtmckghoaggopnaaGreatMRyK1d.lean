/-
  Calls that are known, each by one run.
-/
import Derived.Test.YtmckghoaggopnaaGreatMRyK1
set_option linter.all false
namespace Go.Proofs.YtmckghoaggopnaaGreat.Y
open Go Go.Ry Go.RowKit
def r_37 : Row := ⟨6, [.one (.v (.int .i64 13)), .one (.v (.int .i64 1000000000)), .one (.v (.int .i64 1000))], .tup [.agg [.v (.int .u64 1000000000000000), .v (.int .u64 0), .v (.int .u64 0), .v (.int .u64 0), .v (.int .u64 0), .v (.int .u64 0), .v (.int .u64 0), .v (.int .u64 0), .v (.int .u64 1001), .v (.int .u64 0), .v (.int .u64 0), .v (.int .u64 0), .v (.int .u64 0), .v (.int .u64 0), .v (.int .u64 0), .v (.int .u64 0)], .one (.v (.int .i64 0))]⟩
set_option maxRecDepth 1000000 in
theorem k_37 : Known Tryz.prog r_37.f r_37.l r_37.v := row_nowT tabk_1 (by kernel_rfl)
def rs_1d : List Row := [r_37]
theorem rs_1d_k : ∀ r ∈ rs_1d, Known Tryz.prog r.f r.l r.v := List.forall_mem_cons.2 ⟨k_37, (fun _ h => by cases h)⟩
end Go.Proofs.YtmckghoaggopnaaGreat.Y
