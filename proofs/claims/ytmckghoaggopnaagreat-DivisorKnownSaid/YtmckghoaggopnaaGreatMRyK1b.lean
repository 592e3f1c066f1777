/-
  Calls that are known, each by one run.
-/
import Derived.Test.YtmckghoaggopnaaGreatMRyK1
set_option linter.all false
namespace Go.Proofs.YtmckghoaggopnaaGreat.Y
open Go Go.Ry Go.RowKit
def r_13 : Row := ⟨8, [.one (.v (.int .i64 4)), .one (.v (.int .i64 3))], .s (.agg [.v (.int .u64 4), .v (.int .u64 0), .v (.int .u64 0), .v (.int .u64 0), .v (.int .u64 0), .v (.int .u64 0), .v (.int .u64 0), .v (.int .u64 0), .v (.int .u64 3), .v (.int .u64 0), .v (.int .u64 0), .v (.int .u64 0), .v (.int .u64 0), .v (.int .u64 0), .v (.int .u64 0), .v (.int .u64 0)])⟩
set_option maxRecDepth 1000000 in
theorem k_13 : Known Tryz.prog r_13.f r_13.l r_13.v := row_nowT tabk_1 (by kernel_rfl)
def r_14 : Row := ⟨8, [.one (.v (.int .i64 2)), .one (.v (.int .i64 1))], .s (.agg [.v (.int .u64 2), .v (.int .u64 0), .v (.int .u64 0), .v (.int .u64 0), .v (.int .u64 0), .v (.int .u64 0), .v (.int .u64 0), .v (.int .u64 0), .v (.int .u64 1), .v (.int .u64 0), .v (.int .u64 0), .v (.int .u64 0), .v (.int .u64 0), .v (.int .u64 0), .v (.int .u64 0), .v (.int .u64 0)])⟩
set_option maxRecDepth 1000000 in
theorem k_14 : Known Tryz.prog r_14.f r_14.l r_14.v := row_nowT tabk_1 (by kernel_rfl)
def r_15 : Row := ⟨8, [.one (.v (.int .i64 81)), .one (.v (.int .i64 2))], .s (.agg [.v (.int .u64 81), .v (.int .u64 0), .v (.int .u64 0), .v (.int .u64 0), .v (.int .u64 0), .v (.int .u64 0), .v (.int .u64 0), .v (.int .u64 0), .v (.int .u64 2), .v (.int .u64 0), .v (.int .u64 0), .v (.int .u64 0), .v (.int .u64 0), .v (.int .u64 0), .v (.int .u64 0), .v (.int .u64 0)])⟩
set_option maxRecDepth 1000000 in
theorem k_15 : Known Tryz.prog r_15.f r_15.l r_15.v := row_nowT tabk_1 (by kernel_rfl)
def r_16 : Row := ⟨8, [.one (.v (.int .i64 0)), .one (.v (.int .i64 1))], .s (.agg [.v (.int .u64 0), .v (.int .u64 0), .v (.int .u64 0), .v (.int .u64 0), .v (.int .u64 0), .v (.int .u64 0), .v (.int .u64 0), .v (.int .u64 0), .v (.int .u64 1), .v (.int .u64 0), .v (.int .u64 0), .v (.int .u64 0), .v (.int .u64 0), .v (.int .u64 0), .v (.int .u64 0), .v (.int .u64 0)])⟩
set_option maxRecDepth 1000000 in
theorem k_16 : Known Tryz.prog r_16.f r_16.l r_16.v := row_nowT tabk_1 (by kernel_rfl)
def r_17 : Row := ⟨8, [.one (.v (.int .i64 1000000000000000000)), .one (.v (.int .i64 1001000))], .s (.agg [.v (.int .u64 1000000000000000), .v (.int .u64 0), .v (.int .u64 0), .v (.int .u64 0), .v (.int .u64 0), .v (.int .u64 0), .v (.int .u64 0), .v (.int .u64 0), .v (.int .u64 1001), .v (.int .u64 0), .v (.int .u64 0), .v (.int .u64 0), .v (.int .u64 0), .v (.int .u64 0), .v (.int .u64 0), .v (.int .u64 0)])⟩
set_option maxRecDepth 1000000 in
theorem k_17 : Known Tryz.prog r_17.f r_17.l r_17.v := row_nowT tabk_1 (by kernel_rfl)
def r_18 : Row := ⟨5, [.one (.v (.int .i64 12)), .one (.v (.int .i64 1))], .tup [.agg [.v (.int .u64 4), .v (.int .u64 0), .v (.int .u64 0), .v (.int .u64 0), .v (.int .u64 0), .v (.int .u64 0), .v (.int .u64 0), .v (.int .u64 0), .v (.int .u64 3), .v (.int .u64 0), .v (.int .u64 0), .v (.int .u64 0), .v (.int .u64 0), .v (.int .u64 0), .v (.int .u64 0), .v (.int .u64 0)], .one (.v (.int .i64 0))]⟩
set_option maxRecDepth 1000000 in
theorem k_18 : Known Tryz.prog r_18.f r_18.l r_18.v := row_nowT tabk_1 (by kernel_rfl)
def r_19 : Row := ⟨5, [.one (.v (.int .i64 13)), .one (.v (.int .i64 1))], .tup [.agg [.v (.int .u64 2), .v (.int .u64 0), .v (.int .u64 0), .v (.int .u64 0), .v (.int .u64 0), .v (.int .u64 0), .v (.int .u64 0), .v (.int .u64 0), .v (.int .u64 1), .v (.int .u64 0), .v (.int .u64 0), .v (.int .u64 0), .v (.int .u64 0), .v (.int .u64 0), .v (.int .u64 0), .v (.int .u64 0)], .one (.v (.int .i64 0))]⟩
set_option maxRecDepth 1000000 in
theorem k_19 : Known Tryz.prog r_19.f r_19.l r_19.v := row_nowT tabk_1 (by kernel_rfl)
def r_20 : Row := ⟨5, [.one (.v (.int .i64 10)), .one (.v (.int .i64 0))], .tup [.agg [.v (.int .u64 0), .v (.int .u64 0), .v (.int .u64 0), .v (.int .u64 0), .v (.int .u64 0), .v (.int .u64 0), .v (.int .u64 0), .v (.int .u64 0), .v (.int .u64 0), .v (.int .u64 0), .v (.int .u64 0), .v (.int .u64 0), .v (.int .u64 0), .v (.int .u64 0), .v (.int .u64 0), .v (.int .u64 0)], .one (.v (.int .i64 2))]⟩
set_option maxRecDepth 1000000 in
theorem k_20 : Known Tryz.prog r_20.f r_20.l r_20.v := row_nowT tabk_1 (by kernel_rfl)
def r_21 : Row := ⟨5, [.one (.v (.int .i64 16)), .one (.v (.int .i64 0))], .tup [.agg [.v (.int .u64 0), .v (.int .u64 0), .v (.int .u64 0), .v (.int .u64 0), .v (.int .u64 0), .v (.int .u64 0), .v (.int .u64 0), .v (.int .u64 0), .v (.int .u64 0), .v (.int .u64 0), .v (.int .u64 0), .v (.int .u64 0), .v (.int .u64 0), .v (.int .u64 0), .v (.int .u64 0), .v (.int .u64 0)], .one (.v (.int .i64 2))]⟩
set_option maxRecDepth 1000000 in
theorem k_21 : Known Tryz.prog r_21.f r_21.l r_21.v := row_nowT tabk_1 (by kernel_rfl)
def r_22 : Row := ⟨5, [.one (.v (.int .i64 1)), .one (.v (.int .i64 0))], .tup [.agg [.v (.int .u64 0), .v (.int .u64 0), .v (.int .u64 0), .v (.int .u64 0), .v (.int .u64 0), .v (.int .u64 0), .v (.int .u64 0), .v (.int .u64 0), .v (.int .u64 0), .v (.int .u64 0), .v (.int .u64 0), .v (.int .u64 0), .v (.int .u64 0), .v (.int .u64 0), .v (.int .u64 0), .v (.int .u64 0)], .one (.v (.int .i64 2))]⟩
set_option maxRecDepth 1000000 in
theorem k_22 : Known Tryz.prog r_22.f r_22.l r_22.v := row_nowT tabk_1 (by kernel_rfl)
def r_23 : Row := ⟨5, [.one (.v (.int .i64 11)), .one (.v (.int .i64 (-1)))], .tup [.agg [.v (.int .u64 0), .v (.int .u64 0), .v (.int .u64 0), .v (.int .u64 0), .v (.int .u64 0), .v (.int .u64 0), .v (.int .u64 0), .v (.int .u64 0), .v (.int .u64 0), .v (.int .u64 0), .v (.int .u64 0), .v (.int .u64 0), .v (.int .u64 0), .v (.int .u64 0), .v (.int .u64 0), .v (.int .u64 0)], .one (.v (.int .i64 2))]⟩
set_option maxRecDepth 1000000 in
theorem k_23 : Known Tryz.prog r_23.f r_23.l r_23.v := row_nowT tabk_1 (by kernel_rfl)
def r_24 : Row := ⟨5, [.one (.v (.int .i64 15)), .one (.v (.int .i64 1001))], .tup [.agg [.v (.int .u64 0), .v (.int .u64 0), .v (.int .u64 0), .v (.int .u64 0), .v (.int .u64 0), .v (.int .u64 0), .v (.int .u64 0), .v (.int .u64 0), .v (.int .u64 0), .v (.int .u64 0), .v (.int .u64 0), .v (.int .u64 0), .v (.int .u64 0), .v (.int .u64 0), .v (.int .u64 0), .v (.int .u64 0)], .one (.v (.int .i64 2))]⟩
set_option maxRecDepth 1000000 in
theorem k_24 : Known Tryz.prog r_24.f r_24.l r_24.v := row_nowT tabk_1 (by kernel_rfl)
def rs_1b : List Row := [r_13, r_14, r_15, r_16, r_17, r_18, r_19, r_20, r_21, r_22, r_23, r_24]
theorem rs_1b_k : ∀ r ∈ rs_1b, Known Tryz.prog r.f r.l r.v := List.forall_mem_cons.2 ⟨k_13, List.forall_mem_cons.2 ⟨k_14, List.forall_mem_cons.2 ⟨k_15, List.forall_mem_cons.2 ⟨k_16, List.forall_mem_cons.2 ⟨k_17, List.forall_mem_cons.2 ⟨k_18, List.forall_mem_cons.2 ⟨k_19, List.forall_mem_cons.2 ⟨k_20, List.forall_mem_cons.2 ⟨k_21, List.forall_mem_cons.2 ⟨k_22, List.forall_mem_cons.2 ⟨k_23, List.forall_mem_cons.2 ⟨k_24, (fun _ h => by cases h)⟩⟩⟩⟩⟩⟩⟩⟩⟩⟩⟩⟩
end Go.Proofs.YtmckghoaggopnaaGreat.Y
