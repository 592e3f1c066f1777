/-
  Calls that are known, each by one run.
-/
import Derived.Test.YtjjibclfmknblabGreatMRyK2
set_option linter.all false
namespace Go.Proofs.YtjjibclfmknblabGreat.Y
open Go Go.Ry Go.RowKit
def d_25 : DRow := ⟨6, [.one (.sl 0 0 1 1), .one (.v (.int .i64 1001)), .one (.v (.int .i64 1))], [([.v (.int .i64 1)], 3)], .tup [.agg [.v (.int .u64 0), .v (.int .u64 0), .v (.int .u64 0), .v (.int .u64 0), .v (.int .u64 0), .v (.int .u64 0), .v (.int .u64 0), .v (.int .u64 0), .v (.int .u64 0), .v (.int .u64 0), .v (.int .u64 0), .v (.int .u64 0), .v (.int .u64 0), .v (.int .u64 0), .v (.int .u64 0), .v (.int .u64 0)], .one (.v (.int .i64 2))], [], [], [(0, (0, 0))]⟩
set_option maxRecDepth 1000000 in
theorem dk_25 : Deep Tryz.prog (lets0 fun _ => 0) d_25 := deep_nowT tabk_2 (by kernel_rfl)
def d_26 : DRow := ⟨6, [.one (.sl 0 0 1 1), .one (.v (.int .i64 (-1))), .one (.v (.int .i64 1))], [([.v (.int .i64 1)], 3)], .tup [.agg [.v (.int .u64 0), .v (.int .u64 0), .v (.int .u64 0), .v (.int .u64 0), .v (.int .u64 0), .v (.int .u64 0), .v (.int .u64 0), .v (.int .u64 0), .v (.int .u64 0), .v (.int .u64 0), .v (.int .u64 0), .v (.int .u64 0), .v (.int .u64 0), .v (.int .u64 0), .v (.int .u64 0), .v (.int .u64 0)], .one (.v (.int .i64 2))], [], [], [(0, (0, 0))]⟩
set_option maxRecDepth 1000000 in
theorem dk_26 : Deep Tryz.prog (lets0 fun _ => 0) d_26 := deep_nowT tabk_2 (by kernel_rfl)
def d_27 : DRow := ⟨6, [.one (.sl 0 0 1 1), .one (.v (.int .i64 1)), .one (.v (.int .i64 0))], [([.v (.int .i64 1)], 3)], .tup [.agg [.v (.int .u64 0), .v (.int .u64 0), .v (.int .u64 0), .v (.int .u64 0), .v (.int .u64 0), .v (.int .u64 0), .v (.int .u64 0), .v (.int .u64 0), .v (.int .u64 0), .v (.int .u64 0), .v (.int .u64 0), .v (.int .u64 0), .v (.int .u64 0), .v (.int .u64 0), .v (.int .u64 0), .v (.int .u64 0)], .one (.v (.int .i64 2))], [], [], [(0, (0, 0))]⟩
set_option maxRecDepth 1000000 in
theorem dk_27 : Deep Tryz.prog (lets0 fun _ => 0) d_27 := deep_nowT tabk_2 (by kernel_rfl)
def d_28 : DRow := ⟨6, [.one (.sl 0 0 1 1), .one (.v (.int .i64 1)), .one (.v (.int .i64 5))], [([.v (.int .i64 1)], 3)], .tup [.agg [.v (.int .u64 0), .v (.int .u64 0), .v (.int .u64 0), .v (.int .u64 0), .v (.int .u64 0), .v (.int .u64 0), .v (.int .u64 0), .v (.int .u64 0), .v (.int .u64 0), .v (.int .u64 0), .v (.int .u64 0), .v (.int .u64 0), .v (.int .u64 0), .v (.int .u64 0), .v (.int .u64 0), .v (.int .u64 0)], .one (.v (.int .i64 2))], [], [], [(0, (0, 0))]⟩
set_option maxRecDepth 1000000 in
theorem dk_28 : Deep Tryz.prog (lets0 fun _ => 0) d_28 := deep_nowT tabk_2 (by kernel_rfl)
def d_29 : DRow := ⟨6, [.one (.sl 0 0 1 1), .one (.v (.int .i64 1)), .one (.v (.int .i64 11))], [([.v (.int .i64 1)], 3)], .tup [.agg [.v (.int .u64 0), .v (.int .u64 0), .v (.int .u64 0), .v (.int .u64 0), .v (.int .u64 0), .v (.int .u64 0), .v (.int .u64 0), .v (.int .u64 0), .v (.int .u64 0), .v (.int .u64 0), .v (.int .u64 0), .v (.int .u64 0), .v (.int .u64 0), .v (.int .u64 0), .v (.int .u64 0), .v (.int .u64 0)], .one (.v (.int .i64 2))], [], [], [(0, (0, 0))]⟩
set_option maxRecDepth 1000000 in
theorem dk_29 : Deep Tryz.prog (lets0 fun _ => 0) d_29 := deep_nowT tabk_2 (by kernel_rfl)
def d_30 : DRow := ⟨7, [.one (.sl 0 0 2 2), .one (.v (.int .i64 4)), .one (.v (.int .i64 1))], [([.v (.int .i64 7), .v (.int .i64 3)], 3)], .tup [.one (.sl 1 0 2 2), .one (.v (.int .i64 0))], [([.v (.int .u64 14), .v (.int .u64 0), .v (.int .u64 0), .v (.int .u64 0), .v (.int .u64 0), .v (.int .u64 0), .v (.int .u64 0), .v (.int .u64 0), .v (.int .u64 5), .v (.int .u64 0), .v (.int .u64 0), .v (.int .u64 0), .v (.int .u64 0), .v (.int .u64 0), .v (.int .u64 0), .v (.int .u64 0), .v (.int .u64 6), .v (.int .u64 0), .v (.int .u64 0), .v (.int .u64 0), .v (.int .u64 0), .v (.int .u64 0), .v (.int .u64 0), .v (.int .u64 0), .v (.int .u64 5), .v (.int .u64 0), .v (.int .u64 0), .v (.int .u64 0), .v (.int .u64 0), .v (.int .u64 0), .v (.int .u64 0), .v (.int .u64 0)], 32)], [(0, (0, 0))], [(0, (0, 0))]⟩
set_option maxRecDepth 1000000 in
theorem dk_30 : Deep Tryz.prog (lets0 fun _ => 0) d_30 := deep_nowT tabk_2 (by kernel_rfl)
def r_31 : Row := ⟨7, [.one (.v (.slice none 0 0)), .one (.v (.int .i64 0)), .one (.v (.int .i64 0))], .tup [.one (.v (.slice none 0 0)), .one (.v (.int .i64 60))]⟩
set_option maxRecDepth 1000000 in
theorem k_31 : Known Tryz.prog r_31.f r_31.l r_31.v := row_nowT tabk_2 (by kernel_rfl)
def d_32 : DRow := ⟨7, [.one (.sl 0 0 1 1), .one (.v (.int .i64 0)), .one (.v (.int .i64 0))], [([.v (.int .i64 0)], 3)], .tup [.one (.v (.slice none 0 0)), .one (.v (.int .i64 60))], [], [], [(0, (0, 0))]⟩
set_option maxRecDepth 1000000 in
theorem dk_32 : Deep Tryz.prog (lets0 fun _ => 0) d_32 := deep_nowT tabk_2 (by kernel_rfl)
def d_33 : DRow := ⟨7, [.one (.sl 0 0 2 2), .one (.v (.int .i64 0)), .one (.v (.int .i64 0))], [([.v (.int .i64 0), .v (.int .i64 0)], 3)], .tup [.one (.v (.slice none 0 0)), .one (.v (.int .i64 60))], [], [], [(0, (0, 0))]⟩
set_option maxRecDepth 1000000 in
theorem dk_33 : Deep Tryz.prog (lets0 fun _ => 0) d_33 := deep_nowT tabk_2 (by kernel_rfl)
def d_34 : DRow := ⟨7, [.one (.sl 0 0 2 2), .one (.v (.int .i64 0)), .one (.v (.int .i64 0))], [([.v (.int .i64 (-1)), .v (.int .i64 5)], 3)], .tup [.one (.v (.slice none 0 0)), .one (.v (.int .i64 60))], [], [], [(0, (0, 0))]⟩
set_option maxRecDepth 1000000 in
theorem dk_34 : Deep Tryz.prog (lets0 fun _ => 0) d_34 := deep_nowT tabk_2 (by kernel_rfl)
def d_35 : DRow := ⟨7, [.one (.sl 0 0 1 1), .one (.v (.int .i64 0)), .one (.v (.int .i64 0))], [([.v (.int .i64 1000000001)], 3)], .tup [.one (.v (.slice none 0 0)), .one (.v (.int .i64 60))], [], [], [(0, (0, 0))]⟩
set_option maxRecDepth 1000000 in
theorem dk_35 : Deep Tryz.prog (lets0 fun _ => 0) d_35 := deep_nowT tabk_2 (by kernel_rfl)
def d_36 : DRow := ⟨7, [.one (.sl 0 0 60 60), .one (.v (.int .i64 0)), .one (.v (.int .i64 0))], [([.v (.int .i64 0), .v (.int .i64 0), .v (.int .i64 0), .v (.int .i64 0), .v (.int .i64 0), .v (.int .i64 0), .v (.int .i64 0), .v (.int .i64 0), .v (.int .i64 0), .v (.int .i64 0), .v (.int .i64 0), .v (.int .i64 0), .v (.int .i64 0), .v (.int .i64 0), .v (.int .i64 0), .v (.int .i64 0), .v (.int .i64 0), .v (.int .i64 0), .v (.int .i64 0), .v (.int .i64 0), .v (.int .i64 0), .v (.int .i64 0), .v (.int .i64 0), .v (.int .i64 0), .v (.int .i64 0), .v (.int .i64 0), .v (.int .i64 0), .v (.int .i64 0), .v (.int .i64 0), .v (.int .i64 0), .v (.int .i64 0), .v (.int .i64 0), .v (.int .i64 0), .v (.int .i64 0), .v (.int .i64 0), .v (.int .i64 0), .v (.int .i64 0), .v (.int .i64 0), .v (.int .i64 0), .v (.int .i64 0), .v (.int .i64 0), .v (.int .i64 0), .v (.int .i64 0), .v (.int .i64 0), .v (.int .i64 0), .v (.int .i64 0), .v (.int .i64 0), .v (.int .i64 0), .v (.int .i64 0), .v (.int .i64 0), .v (.int .i64 0), .v (.int .i64 0), .v (.int .i64 0), .v (.int .i64 0), .v (.int .i64 0), .v (.int .i64 0), .v (.int .i64 0), .v (.int .i64 0), .v (.int .i64 0), .v (.int .i64 0)], 3)], .tup [.one (.v (.slice none 0 0)), .one (.v (.int .i64 60))], [], [], [(0, (0, 0))]⟩
set_option maxRecDepth 1000000 in
theorem dk_36 : Deep Tryz.prog (lets0 fun _ => 0) d_36 := deep_nowT tabk_2 (by kernel_rfl)
def rs_2b : List Row := [r_31]
theorem rs_2b_k : ∀ r ∈ rs_2b, Known Tryz.prog r.f r.l r.v := List.forall_mem_cons.2 ⟨k_31, (fun _ h => by cases h)⟩
def ds_2b : List DRow := [d_25, d_26, d_27, d_28, d_29, d_30, d_32, d_33, d_34, d_35, d_36]
theorem ds_2b_k : ∀ d ∈ ds_2b, Deep Tryz.prog (lets0 fun _ => 0) d := List.forall_mem_cons.2 ⟨dk_25, List.forall_mem_cons.2 ⟨dk_26, List.forall_mem_cons.2 ⟨dk_27, List.forall_mem_cons.2 ⟨dk_28, List.forall_mem_cons.2 ⟨dk_29, List.forall_mem_cons.2 ⟨dk_30, List.forall_mem_cons.2 ⟨dk_32, List.forall_mem_cons.2 ⟨dk_33, List.forall_mem_cons.2 ⟨dk_34, List.forall_mem_cons.2 ⟨dk_35, List.forall_mem_cons.2 ⟨dk_36, (fun _ h => by cases h)⟩⟩⟩⟩⟩⟩⟩⟩⟩⟩⟩
end Go.Proofs.YtjjibclfmknblabGreat.Y
