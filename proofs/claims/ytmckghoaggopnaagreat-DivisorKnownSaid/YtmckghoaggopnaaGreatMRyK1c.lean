/-
  Calls that are known, each by one run.
-/
import Derived.Test.YtmckghoaggopnaaGreatMRyK1
set_option linter.all false
namespace Go.Proofs.YtmckghoaggopnaaGreat.Y
open Go Go.Ry Go.RowKit
def r_25 : Row := ⟨6, [.one (.v (.int .i64 13)), .one (.v (.int .i64 9)), .one (.v (.int .i64 1))], .tup [.agg [.v (.int .u64 81), .v (.int .u64 0), .v (.int .u64 0), .v (.int .u64 0), .v (.int .u64 0), .v (.int .u64 0), .v (.int .u64 0), .v (.int .u64 0), .v (.int .u64 2), .v (.int .u64 0), .v (.int .u64 0), .v (.int .u64 0), .v (.int .u64 0), .v (.int .u64 0), .v (.int .u64 0), .v (.int .u64 0)], .one (.v (.int .i64 0))]⟩
set_option maxRecDepth 1000000 in
theorem k_25 : Known Tryz.prog r_25.f r_25.l r_25.v := row_nowT tabk_1 (by kernel_rfl)
def r_26 : Row := ⟨6, [.one (.v (.int .i64 11)), .one (.v (.int .i64 9)), .one (.v (.int .i64 0))], .tup [.agg [.v (.int .u64 0), .v (.int .u64 0), .v (.int .u64 0), .v (.int .u64 0), .v (.int .u64 0), .v (.int .u64 0), .v (.int .u64 0), .v (.int .u64 0), .v (.int .u64 0), .v (.int .u64 0), .v (.int .u64 0), .v (.int .u64 0), .v (.int .u64 0), .v (.int .u64 0), .v (.int .u64 0), .v (.int .u64 0)], .one (.v (.int .i64 7))]⟩
set_option maxRecDepth 1000000 in
theorem k_26 : Known Tryz.prog r_26.f r_26.l r_26.v := row_nowT tabk_1 (by kernel_rfl)
def r_27 : Row := ⟨6, [.one (.v (.int .i64 10)), .one (.v (.int .i64 (-1))), .one (.v (.int .i64 0))], .tup [.agg [.v (.int .u64 0), .v (.int .u64 0), .v (.int .u64 0), .v (.int .u64 0), .v (.int .u64 0), .v (.int .u64 0), .v (.int .u64 0), .v (.int .u64 0), .v (.int .u64 0), .v (.int .u64 0), .v (.int .u64 0), .v (.int .u64 0), .v (.int .u64 0), .v (.int .u64 0), .v (.int .u64 0), .v (.int .u64 0)], .one (.v (.int .i64 2))]⟩
set_option maxRecDepth 1000000 in
theorem k_27 : Known Tryz.prog r_27.f r_27.l r_27.v := row_nowT tabk_1 (by kernel_rfl)
def r_28 : Row := ⟨6, [.one (.v (.int .i64 16)), .one (.v (.int .i64 (-1))), .one (.v (.int .i64 0))], .tup [.agg [.v (.int .u64 0), .v (.int .u64 0), .v (.int .u64 0), .v (.int .u64 0), .v (.int .u64 0), .v (.int .u64 0), .v (.int .u64 0), .v (.int .u64 0), .v (.int .u64 0), .v (.int .u64 0), .v (.int .u64 0), .v (.int .u64 0), .v (.int .u64 0), .v (.int .u64 0), .v (.int .u64 0), .v (.int .u64 0)], .one (.v (.int .i64 2))]⟩
set_option maxRecDepth 1000000 in
theorem k_28 : Known Tryz.prog r_28.f r_28.l r_28.v := row_nowT tabk_1 (by kernel_rfl)
def r_29 : Row := ⟨6, [.one (.v (.int .i64 1)), .one (.v (.int .i64 (-1))), .one (.v (.int .i64 0))], .tup [.agg [.v (.int .u64 0), .v (.int .u64 0), .v (.int .u64 0), .v (.int .u64 0), .v (.int .u64 0), .v (.int .u64 0), .v (.int .u64 0), .v (.int .u64 0), .v (.int .u64 0), .v (.int .u64 0), .v (.int .u64 0), .v (.int .u64 0), .v (.int .u64 0), .v (.int .u64 0), .v (.int .u64 0), .v (.int .u64 0)], .one (.v (.int .i64 2))]⟩
set_option maxRecDepth 1000000 in
theorem k_29 : Known Tryz.prog r_29.f r_29.l r_29.v := row_nowT tabk_1 (by kernel_rfl)
def r_30 : Row := ⟨6, [.one (.v (.int .i64 11)), .one (.v (.int .i64 (-1))), .one (.v (.int .i64 (-1)))], .tup [.agg [.v (.int .u64 0), .v (.int .u64 0), .v (.int .u64 0), .v (.int .u64 0), .v (.int .u64 0), .v (.int .u64 0), .v (.int .u64 0), .v (.int .u64 0), .v (.int .u64 0), .v (.int .u64 0), .v (.int .u64 0), .v (.int .u64 0), .v (.int .u64 0), .v (.int .u64 0), .v (.int .u64 0), .v (.int .u64 0)], .one (.v (.int .i64 2))]⟩
set_option maxRecDepth 1000000 in
theorem k_30 : Known Tryz.prog r_30.f r_30.l r_30.v := row_nowT tabk_1 (by kernel_rfl)
def r_31 : Row := ⟨6, [.one (.v (.int .i64 15)), .one (.v (.int .i64 (-1))), .one (.v (.int .i64 1001))], .tup [.agg [.v (.int .u64 0), .v (.int .u64 0), .v (.int .u64 0), .v (.int .u64 0), .v (.int .u64 0), .v (.int .u64 0), .v (.int .u64 0), .v (.int .u64 0), .v (.int .u64 0), .v (.int .u64 0), .v (.int .u64 0), .v (.int .u64 0), .v (.int .u64 0), .v (.int .u64 0), .v (.int .u64 0), .v (.int .u64 0)], .one (.v (.int .i64 2))]⟩
set_option maxRecDepth 1000000 in
theorem k_31 : Known Tryz.prog r_31.f r_31.l r_31.v := row_nowT tabk_1 (by kernel_rfl)
def r_32 : Row := ⟨6, [.one (.v (.int .i64 11)), .one (.v (.int .i64 (-1))), .one (.v (.int .i64 0))], .tup [.agg [.v (.int .u64 0), .v (.int .u64 0), .v (.int .u64 0), .v (.int .u64 0), .v (.int .u64 0), .v (.int .u64 0), .v (.int .u64 0), .v (.int .u64 0), .v (.int .u64 0), .v (.int .u64 0), .v (.int .u64 0), .v (.int .u64 0), .v (.int .u64 0), .v (.int .u64 0), .v (.int .u64 0), .v (.int .u64 0)], .one (.v (.int .i64 2))]⟩
set_option maxRecDepth 1000000 in
theorem k_32 : Known Tryz.prog r_32.f r_32.l r_32.v := row_nowT tabk_1 (by kernel_rfl)
def r_33 : Row := ⟨6, [.one (.v (.int .i64 14)), .one (.v (.int .i64 1000000001)), .one (.v (.int .i64 0))], .tup [.agg [.v (.int .u64 0), .v (.int .u64 0), .v (.int .u64 0), .v (.int .u64 0), .v (.int .u64 0), .v (.int .u64 0), .v (.int .u64 0), .v (.int .u64 0), .v (.int .u64 0), .v (.int .u64 0), .v (.int .u64 0), .v (.int .u64 0), .v (.int .u64 0), .v (.int .u64 0), .v (.int .u64 0), .v (.int .u64 0)], .one (.v (.int .i64 2))]⟩
set_option maxRecDepth 1000000 in
theorem k_33 : Known Tryz.prog r_33.f r_33.l r_33.v := row_nowT tabk_1 (by kernel_rfl)
def r_34 : Row := ⟨6, [.one (.v (.int .i64 14)), .one (.v (.int .i64 0)), .one (.v (.int .i64 0))], .tup [.agg [.v (.int .u64 0), .v (.int .u64 0), .v (.int .u64 0), .v (.int .u64 0), .v (.int .u64 0), .v (.int .u64 0), .v (.int .u64 0), .v (.int .u64 0), .v (.int .u64 1), .v (.int .u64 0), .v (.int .u64 0), .v (.int .u64 0), .v (.int .u64 0), .v (.int .u64 0), .v (.int .u64 0), .v (.int .u64 0)], .one (.v (.int .i64 0))]⟩
set_option maxRecDepth 1000000 in
theorem k_34 : Known Tryz.prog r_34.f r_34.l r_34.v := row_nowT tabk_1 (by kernel_rfl)
def r_35 : Row := ⟨6, [.one (.v (.int .i64 12)), .one (.v (.int .i64 0)), .one (.v (.int .i64 0))], .tup [.agg [.v (.int .u64 0), .v (.int .u64 0), .v (.int .u64 0), .v (.int .u64 0), .v (.int .u64 0), .v (.int .u64 0), .v (.int .u64 0), .v (.int .u64 0), .v (.int .u64 0), .v (.int .u64 0), .v (.int .u64 0), .v (.int .u64 0), .v (.int .u64 0), .v (.int .u64 0), .v (.int .u64 0), .v (.int .u64 0)], .one (.v (.int .i64 7))]⟩
set_option maxRecDepth 1000000 in
theorem k_35 : Known Tryz.prog r_35.f r_35.l r_35.v := row_nowT tabk_1 (by kernel_rfl)
def r_36 : Row := ⟨6, [.one (.v (.int .i64 13)), .one (.v (.int .i64 0)), .one (.v (.int .i64 0))], .tup [.agg [.v (.int .u64 0), .v (.int .u64 0), .v (.int .u64 0), .v (.int .u64 0), .v (.int .u64 0), .v (.int .u64 0), .v (.int .u64 0), .v (.int .u64 0), .v (.int .u64 0), .v (.int .u64 0), .v (.int .u64 0), .v (.int .u64 0), .v (.int .u64 0), .v (.int .u64 0), .v (.int .u64 0), .v (.int .u64 0)], .one (.v (.int .i64 7))]⟩
set_option maxRecDepth 1000000 in
theorem k_36 : Known Tryz.prog r_36.f r_36.l r_36.v := row_nowT tabk_1 (by kernel_rfl)
def rs_1c : List Row := [r_25, r_26, r_27, r_28, r_29, r_30, r_31, r_32, r_33, r_34, r_35, r_36]
theorem rs_1c_k : ∀ r ∈ rs_1c, Known Tryz.prog r.f r.l r.v := List.forall_mem_cons.2 ⟨k_25, List.forall_mem_cons.2 ⟨k_26, List.forall_mem_cons.2 ⟨k_27, List.forall_mem_cons.2 ⟨k_28, List.forall_mem_cons.2 ⟨k_29, List.forall_mem_cons.2 ⟨k_30, List.forall_mem_cons.2 ⟨k_31, List.forall_mem_cons.2 ⟨k_32, List.forall_mem_cons.2 ⟨k_33, List.forall_mem_cons.2 ⟨k_34, List.forall_mem_cons.2 ⟨k_35, List.forall_mem_cons.2 ⟨k_36, (fun _ h => by cases h)⟩⟩⟩⟩⟩⟩⟩⟩⟩⟩⟩⟩
end Go.Proofs.YtmckghoaggopnaaGreat.Y
