/-
  Calls that are known, each by one run.
-/
import Derived.Test.YtmckghoaggopnaeGreatMRyK2
set_option linter.all false
namespace Go.Proofs.YtmckghoaggopnaeGreat.Y
open Go Go.Ry Go.RowKit
def r_4 : Row := ⟨12, [.one (.v (.int .i64 1)), .one (.v (.int .i64 2))], .s (.agg [.v (.int .u64 1), .v (.int .u64 0), .v (.int .u64 0), .v (.int .u64 0), .v (.int .u64 0), .v (.int .u64 0), .v (.int .u64 0), .v (.int .u64 0), .v (.int .u64 2), .v (.int .u64 0), .v (.int .u64 0), .v (.int .u64 0), .v (.int .u64 0), .v (.int .u64 0), .v (.int .u64 0), .v (.int .u64 0)])⟩
set_option maxRecDepth 1000000 in
theorem k_4 : Known Tryz.prog r_4.f r_4.l r_4.v := row_nowT tabk_2 (by kernel_rfl)
def r_5 : Row := ⟨12, [.one (.v (.int .i64 0)), .one (.v (.int .i64 1))], .s (.agg [.v (.int .u64 0), .v (.int .u64 0), .v (.int .u64 0), .v (.int .u64 0), .v (.int .u64 0), .v (.int .u64 0), .v (.int .u64 0), .v (.int .u64 0), .v (.int .u64 1), .v (.int .u64 0), .v (.int .u64 0), .v (.int .u64 0), .v (.int .u64 0), .v (.int .u64 0), .v (.int .u64 0), .v (.int .u64 0)])⟩
set_option maxRecDepth 1000000 in
theorem k_5 : Known Tryz.prog r_5.f r_5.l r_5.v := row_nowT tabk_2 (by kernel_rfl)
def r_6 : Row := ⟨12, [.one (.v (.int .i64 1)), .one (.v (.int .i64 1))], .s (.agg [.v (.int .u64 1), .v (.int .u64 0), .v (.int .u64 0), .v (.int .u64 0), .v (.int .u64 0), .v (.int .u64 0), .v (.int .u64 0), .v (.int .u64 0), .v (.int .u64 1), .v (.int .u64 0), .v (.int .u64 0), .v (.int .u64 0), .v (.int .u64 0), .v (.int .u64 0), .v (.int .u64 0), .v (.int .u64 0)])⟩
set_option maxRecDepth 1000000 in
theorem k_6 : Known Tryz.prog r_6.f r_6.l r_6.v := row_nowT tabk_2 (by kernel_rfl)
def r_7 : Row := ⟨12, [.one (.v (.int .i64 (-1))), .one (.v (.int .i64 2))], .s (.agg [.v (.int .u64 18446744073709551615), .v (.int .u64 18446744073709551615), .v (.int .u64 18446744073709551615), .v (.int .u64 18446744073709551615), .v (.int .u64 18446744073709551615), .v (.int .u64 18446744073709551615), .v (.int .u64 18446744073709551615), .v (.int .u64 18446744073709551615), .v (.int .u64 2), .v (.int .u64 0), .v (.int .u64 0), .v (.int .u64 0), .v (.int .u64 0), .v (.int .u64 0), .v (.int .u64 0), .v (.int .u64 0)])⟩
set_option maxRecDepth 1000000 in
theorem k_7 : Known Tryz.prog r_7.f r_7.l r_7.v := row_nowT tabk_2 (by kernel_rfl)
def r_8 : Row := ⟨12, [.one (.v (.int .i64 3)), .one (.v (.int .i64 2))], .s (.agg [.v (.int .u64 3), .v (.int .u64 0), .v (.int .u64 0), .v (.int .u64 0), .v (.int .u64 0), .v (.int .u64 0), .v (.int .u64 0), .v (.int .u64 0), .v (.int .u64 2), .v (.int .u64 0), .v (.int .u64 0), .v (.int .u64 0), .v (.int .u64 0), .v (.int .u64 0), .v (.int .u64 0), .v (.int .u64 0)])⟩
set_option maxRecDepth 1000000 in
theorem k_8 : Known Tryz.prog r_8.f r_8.l r_8.v := row_nowT tabk_2 (by kernel_rfl)
def r_9 : Row := ⟨12, [.one (.v (.int .i64 1)), .one (.v (.int .i64 16))], .s (.agg [.v (.int .u64 1), .v (.int .u64 0), .v (.int .u64 0), .v (.int .u64 0), .v (.int .u64 0), .v (.int .u64 0), .v (.int .u64 0), .v (.int .u64 0), .v (.int .u64 16), .v (.int .u64 0), .v (.int .u64 0), .v (.int .u64 0), .v (.int .u64 0), .v (.int .u64 0), .v (.int .u64 0), .v (.int .u64 0)])⟩
set_option maxRecDepth 1000000 in
theorem k_9 : Known Tryz.prog r_9.f r_9.l r_9.v := row_nowT tabk_2 (by kernel_rfl)
def r_10 : Row := ⟨12, [.one (.v (.int .i64 15)), .one (.v (.int .i64 16))], .s (.agg [.v (.int .u64 15), .v (.int .u64 0), .v (.int .u64 0), .v (.int .u64 0), .v (.int .u64 0), .v (.int .u64 0), .v (.int .u64 0), .v (.int .u64 0), .v (.int .u64 16), .v (.int .u64 0), .v (.int .u64 0), .v (.int .u64 0), .v (.int .u64 0), .v (.int .u64 0), .v (.int .u64 0), .v (.int .u64 0)])⟩
set_option maxRecDepth 1000000 in
theorem k_10 : Known Tryz.prog r_10.f r_10.l r_10.v := row_nowT tabk_2 (by kernel_rfl)
def r_11 : Row := ⟨15, [.one (.v (.int .u64 16294208416658607535))], .s (.agg [.v (.int .u64 0)])⟩
set_option maxRecDepth 1000000 in
theorem k_11 : Known Tryz.prog r_11.f r_11.l r_11.v := row_nowT tabk_2 (by kernel_rfl)
def rs_2a : List Row := [r_4, r_5, r_6, r_7, r_8, r_9, r_10, r_11]
theorem rs_2a_k : ∀ r ∈ rs_2a, Known Tryz.prog r.f r.l r.v := List.forall_mem_cons.2 ⟨k_4, List.forall_mem_cons.2 ⟨k_5, List.forall_mem_cons.2 ⟨k_6, List.forall_mem_cons.2 ⟨k_7, List.forall_mem_cons.2 ⟨k_8, List.forall_mem_cons.2 ⟨k_9, List.forall_mem_cons.2 ⟨k_10, List.forall_mem_cons.2 ⟨k_11, (fun _ h => by cases h)⟩⟩⟩⟩⟩⟩⟩⟩
end Go.Proofs.YtmckghoaggopnaeGreat.Y
