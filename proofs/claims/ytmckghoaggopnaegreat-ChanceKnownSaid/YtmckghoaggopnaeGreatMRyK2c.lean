/-
  Calls that are known, each by one run.
-/
import Derived.Test.YtmckghoaggopnaeGreatMRyK2
set_option linter.all false
namespace Go.Proofs.YtmckghoaggopnaeGreat.Y
open Go Go.Ry Go.RowKit
def r_20 : Row := ⟨8, [.agg [.v (.int .u64 0)], .one (.v (.int .i64 10))], .tup [.one (.v (.int .i64 5)), .agg [.v (.int .u64 11400714819323198485)], .one (.v (.int .i64 0))]⟩
set_option maxRecDepth 1000000 in
theorem k_20 : Known Tryz.prog r_20.f r_20.l r_20.v := row_nowT tabk_2 (by kernel_rfl)
def r_21 : Row := ⟨8, [.agg [.v (.int .u64 0)], .one (.v (.int .i64 1))], .tup [.one (.v (.int .i64 0)), .agg [.v (.int .u64 11400714819323198485)], .one (.v (.int .i64 0))]⟩
set_option maxRecDepth 1000000 in
theorem k_21 : Known Tryz.prog r_21.f r_21.l r_21.v := row_nowT tabk_2 (by kernel_rfl)
def r_22 : Row := ⟨8, [.agg [.v (.int .u64 0)], .one (.v (.int .i64 0))], .tup [.one (.v (.int .i64 0)), .agg [.v (.int .u64 0)], .one (.v (.int .i64 2))]⟩
set_option maxRecDepth 1000000 in
theorem k_22 : Known Tryz.prog r_22.f r_22.l r_22.v := row_nowT tabk_2 (by kernel_rfl)
def r_23 : Row := ⟨8, [.agg [.v (.int .u64 0)], .one (.v (.int .i64 (-1)))], .tup [.one (.v (.int .i64 0)), .agg [.v (.int .u64 0)], .one (.v (.int .i64 2))]⟩
set_option maxRecDepth 1000000 in
theorem k_23 : Known Tryz.prog r_23.f r_23.l r_23.v := row_nowT tabk_2 (by kernel_rfl)
def r_24 : Row := ⟨8, [.agg [.v (.int .u64 0)], .one (.v (.int .i64 (-9223372036854775808)))], .tup [.one (.v (.int .i64 0)), .agg [.v (.int .u64 0)], .one (.v (.int .i64 2))]⟩
set_option maxRecDepth 1000000 in
theorem k_24 : Known Tryz.prog r_24.f r_24.l r_24.v := row_nowT tabk_2 (by kernel_rfl)
def r_25 : Row := ⟨8, [.agg [.v (.int .u64 0)], .one (.v (.int .i64 9223372036854775807))], .tup [.one (.v (.int .i64 7070836379803831728)), .agg [.v (.int .u64 11400714819323198485)], .one (.v (.int .i64 0))]⟩
set_option maxRecDepth 1000000 in
theorem k_25 : Known Tryz.prog r_25.f r_25.l r_25.v := row_nowT tabk_2 (by kernel_rfl)
def rs_2c : List Row := [r_20, r_21, r_22, r_23, r_24, r_25]
theorem rs_2c_k : ∀ r ∈ rs_2c, Known Tryz.prog r.f r.l r.v := List.forall_mem_cons.2 ⟨k_20, List.forall_mem_cons.2 ⟨k_21, List.forall_mem_cons.2 ⟨k_22, List.forall_mem_cons.2 ⟨k_23, List.forall_mem_cons.2 ⟨k_24, List.forall_mem_cons.2 ⟨k_25, (fun _ h => by cases h)⟩⟩⟩⟩⟩⟩
end Go.Proofs.YtmckghoaggopnaeGreat.Y
