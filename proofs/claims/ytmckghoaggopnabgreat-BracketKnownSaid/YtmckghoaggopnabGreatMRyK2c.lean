/-
  Calls that are known, each by one run.
-/
import Derived.Test.YtmckghoaggopnabGreatMRyK2
set_option linter.all false
namespace Go.Proofs.YtmckghoaggopnabGreat.Y
open Go Go.Ry Go.RowKit
def r_83 : Row := ⟨54, [.one (.v (.int .i64 14)), .one (.v (.int .i64 9)), .one (.v (.int .i64 0)), .one (.v (.int .i64 5)), .one (.v (.int .i64 0))], .tup [.one (.v (.int .i64 1)), .one (.v (.int .i64 0))]⟩
theorem k_83 : Known Tryz.prog r_83.f r_83.l r_83.v := row_nowT tabk_2 (by kernel_rfl)
def r_84 : Row := ⟨54, [.one (.v (.int .i64 15)), .one (.v (.int .i64 5)), .one (.v (.int .i64 1)), .one (.v (.int .i64 9)), .one (.v (.int .i64 3))], .tup [.one (.v (.int .i64 1)), .one (.v (.int .i64 0))]⟩
theorem k_84 : Known Tryz.prog r_84.f r_84.l r_84.v := row_nowT tabk_2 (by kernel_rfl)
def r_85 : Row := ⟨54, [.one (.v (.int .i64 15)), .one (.v (.int .i64 3)), .one (.v (.int .i64 1)), .one (.v (.int .i64 5)), .one (.v (.int .i64 1))], .tup [.one (.v (.int .i64 (-1))), .one (.v (.int .i64 0))]⟩
theorem k_85 : Known Tryz.prog r_85.f r_85.l r_85.v := row_nowT tabk_2 (by kernel_rfl)
def r_86 : Row := ⟨54, [.one (.v (.int .i64 15)), .one (.v (.int .i64 9)), .one (.v (.int .i64 2)), .one (.v (.int .i64 5)), .one (.v (.int .i64 0))], .tup [.one (.v (.int .i64 (-1))), .one (.v (.int .i64 0))]⟩
theorem k_86 : Known Tryz.prog r_86.f r_86.l r_86.v := row_nowT tabk_2 (by kernel_rfl)
def r_87 : Row := ⟨54, [.one (.v (.int .i64 15)), .one (.v (.int .i64 9)), .one (.v (.int .i64 2)), .one (.v (.int .i64 3)), .one (.v (.int .i64 0))], .tup [.one (.v (.int .i64 0)), .one (.v (.int .i64 0))]⟩
theorem k_87 : Known Tryz.prog r_87.f r_87.l r_87.v := row_nowT tabk_2 (by kernel_rfl)
def r_88 : Row := ⟨54, [.one (.v (.int .i64 15)), .one (.v (.int .i64 5)), .one (.v (.int .i64 1)), .one (.v (.int .i64 9)), .one (.v (.int .i64 2))], .tup [.one (.v (.int .i64 (-1))), .one (.v (.int .i64 0))]⟩
theorem k_88 : Known Tryz.prog r_88.f r_88.l r_88.v := row_nowT tabk_2 (by kernel_rfl)
def r_89 : Row := ⟨54, [.one (.v (.int .i64 11)), .one (.v (.int .i64 5)), .one (.v (.int .i64 2)), .one (.v (.int .i64 9)), .one (.v (.int .i64 2))], .tup [.one (.v (.int .i64 (-1))), .one (.v (.int .i64 0))]⟩
theorem k_89 : Known Tryz.prog r_89.f r_89.l r_89.v := row_nowT tabk_2 (by kernel_rfl)
def r_90 : Row := ⟨54, [.one (.v (.int .i64 11)), .one (.v (.int .i64 3)), .one (.v (.int .i64 1)), .one (.v (.int .i64 9)), .one (.v (.int .i64 2))], .tup [.one (.v (.int .i64 (-1))), .one (.v (.int .i64 0))]⟩
theorem k_90 : Known Tryz.prog r_90.f r_90.l r_90.v := row_nowT tabk_2 (by kernel_rfl)
def r_91 : Row := ⟨54, [.one (.v (.int .i64 11)), .one (.v (.int .i64 9)), .one (.v (.int .i64 1)), .one (.v (.int .i64 5)), .one (.v (.int .i64 1))], .tup [.one (.v (.int .i64 1)), .one (.v (.int .i64 0))]⟩
theorem k_91 : Known Tryz.prog r_91.f r_91.l r_91.v := row_nowT tabk_2 (by kernel_rfl)
def r_92 : Row := ⟨54, [.one (.v (.int .i64 11)), .one (.v (.int .i64 5)), .one (.v (.int .i64 1)), .one (.v (.int .i64 3)), .one (.v (.int .i64 0))], .tup [.one (.v (.int .i64 (-1))), .one (.v (.int .i64 0))]⟩
theorem k_92 : Known Tryz.prog r_92.f r_92.l r_92.v := row_nowT tabk_2 (by kernel_rfl)
def r_93 : Row := ⟨54, [.one (.v (.int .i64 11)), .one (.v (.int .i64 9)), .one (.v (.int .i64 2)), .one (.v (.int .i64 5)), .one (.v (.int .i64 1))], .tup [.one (.v (.int .i64 (-1))), .one (.v (.int .i64 0))]⟩
theorem k_93 : Known Tryz.prog r_93.f r_93.l r_93.v := row_nowT tabk_2 (by kernel_rfl)
def r_94 : Row := ⟨54, [.one (.v (.int .i64 14)), .one (.v (.int .i64 5)), .one (.v (.int .i64 1)), .one (.v (.int .i64 9)), .one (.v (.int .i64 2))], .tup [.one (.v (.int .i64 (-1))), .one (.v (.int .i64 0))]⟩
theorem k_94 : Known Tryz.prog r_94.f r_94.l r_94.v := row_nowT tabk_2 (by kernel_rfl)
def r_95 : Row := ⟨54, [.one (.v (.int .i64 14)), .one (.v (.int .i64 3)), .one (.v (.int .i64 1)), .one (.v (.int .i64 9)), .one (.v (.int .i64 2))], .tup [.one (.v (.int .i64 (-1))), .one (.v (.int .i64 0))]⟩
theorem k_95 : Known Tryz.prog r_95.f r_95.l r_95.v := row_nowT tabk_2 (by kernel_rfl)
def r_96 : Row := ⟨54, [.one (.v (.int .i64 14)), .one (.v (.int .i64 9)), .one (.v (.int .i64 1)), .one (.v (.int .i64 3)), .one (.v (.int .i64 0))], .tup [.one (.v (.int .i64 0)), .one (.v (.int .i64 0))]⟩
theorem k_96 : Known Tryz.prog r_96.f r_96.l r_96.v := row_nowT tabk_2 (by kernel_rfl)
def rs_2c : List Row := [r_83, r_84, r_85, r_86, r_87, r_88, r_89, r_90, r_91, r_92, r_93, r_94, r_95, r_96]
theorem rs_2c_k : ∀ r ∈ rs_2c, Known Tryz.prog r.f r.l r.v := List.forall_mem_cons.2 ⟨k_83, List.forall_mem_cons.2 ⟨k_84, List.forall_mem_cons.2 ⟨k_85, List.forall_mem_cons.2 ⟨k_86, List.forall_mem_cons.2 ⟨k_87, List.forall_mem_cons.2 ⟨k_88, List.forall_mem_cons.2 ⟨k_89, List.forall_mem_cons.2 ⟨k_90, List.forall_mem_cons.2 ⟨k_91, List.forall_mem_cons.2 ⟨k_92, List.forall_mem_cons.2 ⟨k_93, List.forall_mem_cons.2 ⟨k_94, List.forall_mem_cons.2 ⟨k_95, List.forall_mem_cons.2 ⟨k_96, (fun _ h => by cases h)⟩⟩⟩⟩⟩⟩⟩⟩⟩⟩⟩⟩⟩⟩
end Go.Proofs.YtmckghoaggopnabGreat.Y
