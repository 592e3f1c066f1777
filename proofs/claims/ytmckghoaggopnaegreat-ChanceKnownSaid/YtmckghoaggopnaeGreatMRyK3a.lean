/-
  Calls that are known, each by one run.
-/
import Derived.Test.YtmckghoaggopnaeGreatMRyK3
set_option linter.all false
namespace Go.Proofs.YtmckghoaggopnaeGreat.Y
open Go Go.Ry Go.RowKit
def r_26 : Row := ⟨13, [.agg [.v (.int .u64 0)], .agg [.v (.int .u64 1), .v (.int .u64 0), .v (.int .u64 0), .v (.int .u64 0), .v (.int .u64 0), .v (.int .u64 0), .v (.int .u64 0), .v (.int .u64 0), .v (.int .u64 2), .v (.int .u64 0), .v (.int .u64 0), .v (.int .u64 0), .v (.int .u64 0), .v (.int .u64 0), .v (.int .u64 0), .v (.int .u64 0)]], .tup [.one (.v (.bool false)), .agg [.v (.int .u64 11400714819323198485)], .one (.v (.int .i64 0))]⟩
set_option maxRecDepth 1000000 in
theorem k_26 : Known Tryz.prog r_26.f r_26.l r_26.v := row_nowT tabk_3 (by kernel_rfl)
def r_27 : Row := ⟨13, [.agg [.v (.int .u64 0)], .agg [.v (.int .u64 0), .v (.int .u64 0), .v (.int .u64 0), .v (.int .u64 0), .v (.int .u64 0), .v (.int .u64 0), .v (.int .u64 0), .v (.int .u64 0), .v (.int .u64 1), .v (.int .u64 0), .v (.int .u64 0), .v (.int .u64 0), .v (.int .u64 0), .v (.int .u64 0), .v (.int .u64 0), .v (.int .u64 0)]], .tup [.one (.v (.bool false)), .agg [.v (.int .u64 0)], .one (.v (.int .i64 0))]⟩
set_option maxRecDepth 1000000 in
theorem k_27 : Known Tryz.prog r_27.f r_27.l r_27.v := row_nowT tabk_3 (by kernel_rfl)
def r_28 : Row := ⟨13, [.agg [.v (.int .u64 0)], .agg [.v (.int .u64 1), .v (.int .u64 0), .v (.int .u64 0), .v (.int .u64 0), .v (.int .u64 0), .v (.int .u64 0), .v (.int .u64 0), .v (.int .u64 0), .v (.int .u64 1), .v (.int .u64 0), .v (.int .u64 0), .v (.int .u64 0), .v (.int .u64 0), .v (.int .u64 0), .v (.int .u64 0), .v (.int .u64 0)]], .tup [.one (.v (.bool true)), .agg [.v (.int .u64 0)], .one (.v (.int .i64 0))]⟩
set_option maxRecDepth 1000000 in
theorem k_28 : Known Tryz.prog r_28.f r_28.l r_28.v := row_nowT tabk_3 (by kernel_rfl)
def r_29 : Row := ⟨13, [.agg [.v (.int .u64 0)], .agg [.v (.int .u64 18446744073709551615), .v (.int .u64 18446744073709551615), .v (.int .u64 18446744073709551615), .v (.int .u64 18446744073709551615), .v (.int .u64 18446744073709551615), .v (.int .u64 18446744073709551615), .v (.int .u64 18446744073709551615), .v (.int .u64 18446744073709551615), .v (.int .u64 2), .v (.int .u64 0), .v (.int .u64 0), .v (.int .u64 0), .v (.int .u64 0), .v (.int .u64 0), .v (.int .u64 0), .v (.int .u64 0)]], .tup [.one (.v (.bool false)), .agg [.v (.int .u64 0)], .one (.v (.int .i64 2))]⟩
set_option maxRecDepth 1000000 in
theorem k_29 : Known Tryz.prog r_29.f r_29.l r_29.v := row_nowT tabk_3 (by kernel_rfl)
def r_30 : Row := ⟨13, [.agg [.v (.int .u64 0)], .agg [.v (.int .u64 3), .v (.int .u64 0), .v (.int .u64 0), .v (.int .u64 0), .v (.int .u64 0), .v (.int .u64 0), .v (.int .u64 0), .v (.int .u64 0), .v (.int .u64 2), .v (.int .u64 0), .v (.int .u64 0), .v (.int .u64 0), .v (.int .u64 0), .v (.int .u64 0), .v (.int .u64 0), .v (.int .u64 0)]], .tup [.one (.v (.bool false)), .agg [.v (.int .u64 0)], .one (.v (.int .i64 2))]⟩
set_option maxRecDepth 1000000 in
theorem k_30 : Known Tryz.prog r_30.f r_30.l r_30.v := row_nowT tabk_3 (by kernel_rfl)
def r_31 : Row := ⟨13, [.agg [.v (.int .u64 0)], .agg [.v (.int .u64 0), .v (.int .u64 0), .v (.int .u64 0), .v (.int .u64 0), .v (.int .u64 0), .v (.int .u64 0), .v (.int .u64 0), .v (.int .u64 0), .v (.int .u64 0), .v (.int .u64 0), .v (.int .u64 0), .v (.int .u64 0), .v (.int .u64 0), .v (.int .u64 0), .v (.int .u64 0), .v (.int .u64 0)]], .tup [.one (.v (.bool false)), .agg [.v (.int .u64 0)], .one (.v (.int .i64 20))]⟩
set_option maxRecDepth 1000000 in
theorem k_31 : Known Tryz.prog r_31.f r_31.l r_31.v := row_nowT tabk_3 (by kernel_rfl)
def r_32 : Row := ⟨13, [.agg [.v (.int .u64 0)], .agg [.v (.int .u64 1), .v (.int .u64 0), .v (.int .u64 0), .v (.int .u64 0), .v (.int .u64 0), .v (.int .u64 0), .v (.int .u64 0), .v (.int .u64 0), .v (.int .u64 16), .v (.int .u64 0), .v (.int .u64 0), .v (.int .u64 0), .v (.int .u64 0), .v (.int .u64 0), .v (.int .u64 0), .v (.int .u64 0)]], .tup [.one (.v (.bool false)), .agg [.v (.int .u64 11400714819323198485)], .one (.v (.int .i64 0))]⟩
set_option maxRecDepth 1000000 in
theorem k_32 : Known Tryz.prog r_32.f r_32.l r_32.v := row_nowT tabk_3 (by kernel_rfl)
def r_33 : Row := ⟨13, [.agg [.v (.int .u64 0)], .agg [.v (.int .u64 15), .v (.int .u64 0), .v (.int .u64 0), .v (.int .u64 0), .v (.int .u64 0), .v (.int .u64 0), .v (.int .u64 0), .v (.int .u64 0), .v (.int .u64 16), .v (.int .u64 0), .v (.int .u64 0), .v (.int .u64 0), .v (.int .u64 0), .v (.int .u64 0), .v (.int .u64 0), .v (.int .u64 0)]], .tup [.one (.v (.bool false)), .agg [.v (.int .u64 11400714819323198485)], .one (.v (.int .i64 0))]⟩
set_option maxRecDepth 1000000 in
theorem k_33 : Known Tryz.prog r_33.f r_33.l r_33.v := row_nowT tabk_3 (by kernel_rfl)
def rs_3a : List Row := [r_26, r_27, r_28, r_29, r_30, r_31, r_32, r_33]
theorem rs_3a_k : ∀ r ∈ rs_3a, Known Tryz.prog r.f r.l r.v := List.forall_mem_cons.2 ⟨k_26, List.forall_mem_cons.2 ⟨k_27, List.forall_mem_cons.2 ⟨k_28, List.forall_mem_cons.2 ⟨k_29, List.forall_mem_cons.2 ⟨k_30, List.forall_mem_cons.2 ⟨k_31, List.forall_mem_cons.2 ⟨k_32, List.forall_mem_cons.2 ⟨k_33, (fun _ h => by cases h)⟩⟩⟩⟩⟩⟩⟩⟩
end Go.Proofs.YtmckghoaggopnaeGreat.Y
