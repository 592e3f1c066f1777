/-
  Calls that are known, each by one run.
-/
import Derived.Test.YtjjibclfmknblabGreatMRyK1
set_option linter.all false
namespace Go.Proofs.YtjjibclfmknblabGreat.Y
open Go Go.Ry Go.RowKit
def r_1 : Row := ⟨13, [.one (.v (.int .i64 5)), .one (.v (.int .i64 2))], .s (.agg [.v (.int .u64 5), .v (.int .u64 0), .v (.int .u64 0), .v (.int .u64 0), .v (.int .u64 0), .v (.int .u64 0), .v (.int .u64 0), .v (.int .u64 0), .v (.int .u64 2), .v (.int .u64 0), .v (.int .u64 0), .v (.int .u64 0), .v (.int .u64 0), .v (.int .u64 0), .v (.int .u64 0), .v (.int .u64 0)])⟩
set_option maxRecDepth 1000000 in
theorem k_1 : Known Tryz.prog r_1.f r_1.l r_1.v := row_nowT tabk_1 (by kernel_rfl)
def r_2 : Row := ⟨13, [.one (.v (.int .i64 3)), .one (.v (.int .i64 1))], .s (.agg [.v (.int .u64 3), .v (.int .u64 0), .v (.int .u64 0), .v (.int .u64 0), .v (.int .u64 0), .v (.int .u64 0), .v (.int .u64 0), .v (.int .u64 0), .v (.int .u64 1), .v (.int .u64 0), .v (.int .u64 0), .v (.int .u64 0), .v (.int .u64 0), .v (.int .u64 0), .v (.int .u64 0), .v (.int .u64 0)])⟩
set_option maxRecDepth 1000000 in
theorem k_2 : Known Tryz.prog r_2.f r_2.l r_2.v := row_nowT tabk_1 (by kernel_rfl)
def r_3 : Row := ⟨13, [.one (.v (.int .i64 2)), .one (.v (.int .i64 1))], .s (.agg [.v (.int .u64 2), .v (.int .u64 0), .v (.int .u64 0), .v (.int .u64 0), .v (.int .u64 0), .v (.int .u64 0), .v (.int .u64 0), .v (.int .u64 0), .v (.int .u64 1), .v (.int .u64 0), .v (.int .u64 0), .v (.int .u64 0), .v (.int .u64 0), .v (.int .u64 0), .v (.int .u64 0), .v (.int .u64 0)])⟩
set_option maxRecDepth 1000000 in
theorem k_3 : Known Tryz.prog r_3.f r_3.l r_3.v := row_nowT tabk_1 (by kernel_rfl)
def r_4 : Row := ⟨13, [.one (.v (.int .i64 5)), .one (.v (.int .i64 3))], .s (.agg [.v (.int .u64 5), .v (.int .u64 0), .v (.int .u64 0), .v (.int .u64 0), .v (.int .u64 0), .v (.int .u64 0), .v (.int .u64 0), .v (.int .u64 0), .v (.int .u64 3), .v (.int .u64 0), .v (.int .u64 0), .v (.int .u64 0), .v (.int .u64 0), .v (.int .u64 0), .v (.int .u64 0), .v (.int .u64 0)])⟩
set_option maxRecDepth 1000000 in
theorem k_4 : Known Tryz.prog r_4.f r_4.l r_4.v := row_nowT tabk_1 (by kernel_rfl)
def r_5 : Row := ⟨13, [.one (.v (.int .i64 14)), .one (.v (.int .i64 5))], .s (.agg [.v (.int .u64 14), .v (.int .u64 0), .v (.int .u64 0), .v (.int .u64 0), .v (.int .u64 0), .v (.int .u64 0), .v (.int .u64 0), .v (.int .u64 0), .v (.int .u64 5), .v (.int .u64 0), .v (.int .u64 0), .v (.int .u64 0), .v (.int .u64 0), .v (.int .u64 0), .v (.int .u64 0), .v (.int .u64 0)])⟩
set_option maxRecDepth 1000000 in
theorem k_5 : Known Tryz.prog r_5.f r_5.l r_5.v := row_nowT tabk_1 (by kernel_rfl)
def r_6 : Row := ⟨13, [.one (.v (.int .i64 6)), .one (.v (.int .i64 5))], .s (.agg [.v (.int .u64 6), .v (.int .u64 0), .v (.int .u64 0), .v (.int .u64 0), .v (.int .u64 0), .v (.int .u64 0), .v (.int .u64 0), .v (.int .u64 0), .v (.int .u64 5), .v (.int .u64 0), .v (.int .u64 0), .v (.int .u64 0), .v (.int .u64 0), .v (.int .u64 0), .v (.int .u64 0), .v (.int .u64 0)])⟩
set_option maxRecDepth 1000000 in
theorem k_6 : Known Tryz.prog r_6.f r_6.l r_6.v := row_nowT tabk_1 (by kernel_rfl)
def r_7 : Row := ⟨18, [.one (.v (.int .i64 10)), .one (.v (.int .i64 4))], .tup [.agg [.v (.int .u64 5), .v (.int .u64 0), .v (.int .u64 0), .v (.int .u64 0), .v (.int .u64 0), .v (.int .u64 0), .v (.int .u64 0), .v (.int .u64 0), .v (.int .u64 2), .v (.int .u64 0), .v (.int .u64 0), .v (.int .u64 0), .v (.int .u64 0), .v (.int .u64 0), .v (.int .u64 0), .v (.int .u64 0)], .one (.v (.int .i64 0))]⟩
set_option maxRecDepth 1000000 in
theorem k_7 : Known Tryz.prog r_7.f r_7.l r_7.v := row_nowT tabk_1 (by kernel_rfl)
def r_8 : Row := ⟨18, [.one (.v (.int .i64 3)), .one (.v (.int .i64 1))], .tup [.agg [.v (.int .u64 3), .v (.int .u64 0), .v (.int .u64 0), .v (.int .u64 0), .v (.int .u64 0), .v (.int .u64 0), .v (.int .u64 0), .v (.int .u64 0), .v (.int .u64 1), .v (.int .u64 0), .v (.int .u64 0), .v (.int .u64 0), .v (.int .u64 0), .v (.int .u64 0), .v (.int .u64 0), .v (.int .u64 0)], .one (.v (.int .i64 0))]⟩
set_option maxRecDepth 1000000 in
theorem k_8 : Known Tryz.prog r_8.f r_8.l r_8.v := row_nowT tabk_1 (by kernel_rfl)
def r_9 : Row := ⟨18, [.one (.v (.int .i64 10)), .one (.v (.int .i64 5))], .tup [.agg [.v (.int .u64 2), .v (.int .u64 0), .v (.int .u64 0), .v (.int .u64 0), .v (.int .u64 0), .v (.int .u64 0), .v (.int .u64 0), .v (.int .u64 0), .v (.int .u64 1), .v (.int .u64 0), .v (.int .u64 0), .v (.int .u64 0), .v (.int .u64 0), .v (.int .u64 0), .v (.int .u64 0), .v (.int .u64 0)], .one (.v (.int .i64 0))]⟩
set_option maxRecDepth 1000000 in
theorem k_9 : Known Tryz.prog r_9.f r_9.l r_9.v := row_nowT tabk_1 (by kernel_rfl)
def r_10 : Row := ⟨18, [.one (.v (.int .i64 10)), .one (.v (.int .i64 6))], .tup [.agg [.v (.int .u64 5), .v (.int .u64 0), .v (.int .u64 0), .v (.int .u64 0), .v (.int .u64 0), .v (.int .u64 0), .v (.int .u64 0), .v (.int .u64 0), .v (.int .u64 3), .v (.int .u64 0), .v (.int .u64 0), .v (.int .u64 0), .v (.int .u64 0), .v (.int .u64 0), .v (.int .u64 0), .v (.int .u64 0)], .one (.v (.int .i64 0))]⟩
set_option maxRecDepth 1000000 in
theorem k_10 : Known Tryz.prog r_10.f r_10.l r_10.v := row_nowT tabk_1 (by kernel_rfl)
def r_11 : Row := ⟨18, [.one (.v (.int .i64 28)), .one (.v (.int .i64 10))], .tup [.agg [.v (.int .u64 14), .v (.int .u64 0), .v (.int .u64 0), .v (.int .u64 0), .v (.int .u64 0), .v (.int .u64 0), .v (.int .u64 0), .v (.int .u64 0), .v (.int .u64 5), .v (.int .u64 0), .v (.int .u64 0), .v (.int .u64 0), .v (.int .u64 0), .v (.int .u64 0), .v (.int .u64 0), .v (.int .u64 0)], .one (.v (.int .i64 0))]⟩
set_option maxRecDepth 1000000 in
theorem k_11 : Known Tryz.prog r_11.f r_11.l r_11.v := row_nowT tabk_1 (by kernel_rfl)
def r_12 : Row := ⟨18, [.one (.v (.int .i64 12)), .one (.v (.int .i64 10))], .tup [.agg [.v (.int .u64 6), .v (.int .u64 0), .v (.int .u64 0), .v (.int .u64 0), .v (.int .u64 0), .v (.int .u64 0), .v (.int .u64 0), .v (.int .u64 0), .v (.int .u64 5), .v (.int .u64 0), .v (.int .u64 0), .v (.int .u64 0), .v (.int .u64 0), .v (.int .u64 0), .v (.int .u64 0), .v (.int .u64 0)], .one (.v (.int .i64 0))]⟩
set_option maxRecDepth 1000000 in
theorem k_12 : Known Tryz.prog r_12.f r_12.l r_12.v := row_nowT tabk_1 (by kernel_rfl)
def rs_1a : List Row := [r_1, r_2, r_3, r_4, r_5, r_6, r_7, r_8, r_9, r_10, r_11, r_12]
theorem rs_1a_k : ∀ r ∈ rs_1a, Known Tryz.prog r.f r.l r.v := List.forall_mem_cons.2 ⟨k_1, List.forall_mem_cons.2 ⟨k_2, List.forall_mem_cons.2 ⟨k_3, List.forall_mem_cons.2 ⟨k_4, List.forall_mem_cons.2 ⟨k_5, List.forall_mem_cons.2 ⟨k_6, List.forall_mem_cons.2 ⟨k_7, List.forall_mem_cons.2 ⟨k_8, List.forall_mem_cons.2 ⟨k_9, List.forall_mem_cons.2 ⟨k_10, List.forall_mem_cons.2 ⟨k_11, List.forall_mem_cons.2 ⟨k_12, (fun _ h => by cases h)⟩⟩⟩⟩⟩⟩⟩⟩⟩⟩⟩⟩
end Go.Proofs.YtjjibclfmknblabGreat.Y
