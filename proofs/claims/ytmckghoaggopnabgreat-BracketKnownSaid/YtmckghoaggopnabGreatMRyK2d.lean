/-
  Calls that are known, each by one run.
-/
import Derived.Test.YtmckghoaggopnabGreatMRyK2
set_option linter.all false
namespace Go.Proofs.YtmckghoaggopnabGreat.Y
open Go Go.Ry Go.RowKit
def r_97 : Row := ⟨54, [.one (.v (.int .i64 14)), .one (.v (.int .i64 9)), .one (.v (.int .i64 2)), .one (.v (.int .i64 9)), .one (.v (.int .i64 1))], .tup [.one (.v (.int .i64 (-1))), .one (.v (.int .i64 0))]⟩
theorem k_97 : Known Tryz.prog r_97.f r_97.l r_97.v := row_nowT tabk_2 (by kernel_rfl)
def r_98 : Row := ⟨54, [.one (.v (.int .i64 13)), .one (.v (.int .i64 5)), .one (.v (.int .i64 1)), .one (.v (.int .i64 9)), .one (.v (.int .i64 1))], .tup [.one (.v (.int .i64 (-1))), .one (.v (.int .i64 0))]⟩
theorem k_98 : Known Tryz.prog r_98.f r_98.l r_98.v := row_nowT tabk_2 (by kernel_rfl)
def r_99 : Row := ⟨54, [.one (.v (.int .i64 13)), .one (.v (.int .i64 3)), .one (.v (.int .i64 1)), .one (.v (.int .i64 9)), .one (.v (.int .i64 1))], .tup [.one (.v (.int .i64 (-1))), .one (.v (.int .i64 0))]⟩
theorem k_99 : Known Tryz.prog r_99.f r_99.l r_99.v := row_nowT tabk_2 (by kernel_rfl)
def r_100 : Row := ⟨54, [.one (.v (.int .i64 13)), .one (.v (.int .i64 9)), .one (.v (.int .i64 0)), .one (.v (.int .i64 5)), .one (.v (.int .i64 0))], .tup [.one (.v (.int .i64 1)), .one (.v (.int .i64 0))]⟩
theorem k_100 : Known Tryz.prog r_100.f r_100.l r_100.v := row_nowT tabk_2 (by kernel_rfl)
def r_101 : Row := ⟨54, [.one (.v (.int .i64 13)), .one (.v (.int .i64 5)), .one (.v (.int .i64 0)), .one (.v (.int .i64 3)), .one (.v (.int .i64 0))], .tup [.one (.v (.int .i64 1)), .one (.v (.int .i64 0))]⟩
theorem k_101 : Known Tryz.prog r_101.f r_101.l r_101.v := row_nowT tabk_2 (by kernel_rfl)
def r_102 : Row := ⟨54, [.one (.v (.int .i64 13)), .one (.v (.int .i64 9)), .one (.v (.int .i64 1)), .one (.v (.int .i64 3)), .one (.v (.int .i64 0))], .tup [.one (.v (.int .i64 (-1))), .one (.v (.int .i64 0))]⟩
theorem k_102 : Known Tryz.prog r_102.f r_102.l r_102.v := row_nowT tabk_2 (by kernel_rfl)
def r_103 : Row := ⟨54, [.one (.v (.int .i64 11)), .one (.v (.int .i64 5)), .one (.v (.int .i64 1)), .one (.v (.int .i64 9)), .one (.v (.int .i64 1))], .tup [.one (.v (.int .i64 (-1))), .one (.v (.int .i64 0))]⟩
theorem k_103 : Known Tryz.prog r_103.f r_103.l r_103.v := row_nowT tabk_2 (by kernel_rfl)
def r_104 : Row := ⟨54, [.one (.v (.int .i64 11)), .one (.v (.int .i64 3)), .one (.v (.int .i64 0)), .one (.v (.int .i64 9)), .one (.v (.int .i64 1))], .tup [.one (.v (.int .i64 1)), .one (.v (.int .i64 0))]⟩
theorem k_104 : Known Tryz.prog r_104.f r_104.l r_104.v := row_nowT tabk_2 (by kernel_rfl)
def r_105 : Row := ⟨54, [.one (.v (.int .i64 11)), .one (.v (.int .i64 9)), .one (.v (.int .i64 0)), .one (.v (.int .i64 5)), .one (.v (.int .i64 0))], .tup [.one (.v (.int .i64 1)), .one (.v (.int .i64 0))]⟩
theorem k_105 : Known Tryz.prog r_105.f r_105.l r_105.v := row_nowT tabk_2 (by kernel_rfl)
def r_106 : Row := ⟨54, [.one (.v (.int .i64 11)), .one (.v (.int .i64 3)), .one (.v (.int .i64 0)), .one (.v (.int .i64 5)), .one (.v (.int .i64 0))], .tup [.one (.v (.int .i64 (-1))), .one (.v (.int .i64 0))]⟩
theorem k_106 : Known Tryz.prog r_106.f r_106.l r_106.v := row_nowT tabk_2 (by kernel_rfl)
def r_107 : Row := ⟨54, [.one (.v (.int .i64 14)), .one (.v (.int .i64 5)), .one (.v (.int .i64 0)), .one (.v (.int .i64 3)), .one (.v (.int .i64 2))], .tup [.one (.v (.int .i64 1)), .one (.v (.int .i64 0))]⟩
theorem k_107 : Known Tryz.prog r_107.f r_107.l r_107.v := row_nowT tabk_2 (by kernel_rfl)
def r_108 : Row := ⟨54, [.one (.v (.int .i64 14)), .one (.v (.int .i64 9)), .one (.v (.int .i64 1)), .one (.v (.int .i64 3)), .one (.v (.int .i64 2))], .tup [.one (.v (.int .i64 1)), .one (.v (.int .i64 0))]⟩
theorem k_108 : Known Tryz.prog r_108.f r_108.l r_108.v := row_nowT tabk_2 (by kernel_rfl)
def r_109 : Row := ⟨54, [.one (.v (.int .i64 11)), .one (.v (.int .i64 5)), .one (.v (.int .i64 1)), .one (.v (.int .i64 9)), .one (.v (.int .i64 0))], .tup [.one (.v (.int .i64 (-1))), .one (.v (.int .i64 0))]⟩
theorem k_109 : Known Tryz.prog r_109.f r_109.l r_109.v := row_nowT tabk_2 (by kernel_rfl)
def r_110 : Row := ⟨54, [.one (.v (.int .i64 11)), .one (.v (.int .i64 3)), .one (.v (.int .i64 1)), .one (.v (.int .i64 9)), .one (.v (.int .i64 0))], .tup [.one (.v (.int .i64 (-1))), .one (.v (.int .i64 0))]⟩
theorem k_110 : Known Tryz.prog r_110.f r_110.l r_110.v := row_nowT tabk_2 (by kernel_rfl)
def rs_2d : List Row := [r_97, r_98, r_99, r_100, r_101, r_102, r_103, r_104, r_105, r_106, r_107, r_108, r_109, r_110]
theorem rs_2d_k : ∀ r ∈ rs_2d, Known Tryz.prog r.f r.l r.v := List.forall_mem_cons.2 ⟨k_97, List.forall_mem_cons.2 ⟨k_98, List.forall_mem_cons.2 ⟨k_99, List.forall_mem_cons.2 ⟨k_100, List.forall_mem_cons.2 ⟨k_101, List.forall_mem_cons.2 ⟨k_102, List.forall_mem_cons.2 ⟨k_103, List.forall_mem_cons.2 ⟨k_104, List.forall_mem_cons.2 ⟨k_105, List.forall_mem_cons.2 ⟨k_106, List.forall_mem_cons.2 ⟨k_107, List.forall_mem_cons.2 ⟨k_108, List.forall_mem_cons.2 ⟨k_109, List.forall_mem_cons.2 ⟨k_110, (fun _ h => by cases h)⟩⟩⟩⟩⟩⟩⟩⟩⟩⟩⟩⟩⟩⟩
end Go.Proofs.YtmckghoaggopnabGreat.Y
