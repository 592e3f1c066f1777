/-
  Calls that are known, each by one run.
-/
import Derived.Test.YtjjibclfmknblaaGreatMRyK2
set_option linter.all false
namespace Go.Proofs.YtjjibclfmknblaaGreat.Y
open Go Go.Ry Go.RowKit
def d_14 : DRow := ⟨9, [.one (.sl 0 0 4 4), .agg [.v (.int .i64 14), .v (.int .i64 10), .v (.int .i64 1000), .v (.int .i64 0), .v (.int .i64 0)]], [([.v (.int .i64 50), .v (.int .i64 0), .v (.int .i64 30), .v (.int .i64 1), .v (.int .i64 15), .v (.int .i64 1), .v (.int .i64 5), .v (.int .i64 0)], 29)], .tup [.agg [.slf 1 0 3 1, .v (.slice none 0 0), .v (.int .i64 0)], .one (.v (.int .i64 0))], [([.v (.int .i64 5), .v (.int .i64 5), .v (.int .i64 0)], 3)], [(0, (0, 0))], [(0, (0, 0))]⟩
set_option maxRecDepth 1000000 in
theorem dk_14 : Deep Tryz.prog (lets0 fun _ => 0) d_14 := deep_nowT tabk_2 (by kernel_rfl)
def d_15 : DRow := ⟨9, [.one (.sl 0 0 4 4), .agg [.v (.int .i64 14), .v (.int .i64 10), .v (.int .i64 0), .v (.int .i64 0), .v (.int .i64 0)]], [([.v (.int .i64 50), .v (.int .i64 0), .v (.int .i64 30), .v (.int .i64 1), .v (.int .i64 15), .v (.int .i64 1), .v (.int .i64 5), .v (.int .i64 0)], 29)], .tup [.agg [.slf 1 0 3 1, .slf 2 0 2 1, .v (.int .i64 1)], .one (.v (.int .i64 0))], [([.v (.int .i64 5), .v (.int .i64 4), .v (.int .i64 0)], 3), ([.v (.int .i64 1), .v (.int .i64 2)], 3)], [(0, (0, 0)), (0, (0, 1))], [(0, (0, 0))]⟩
set_option maxRecDepth 1000000 in
theorem dk_15 : Deep Tryz.prog (lets0 fun _ => 0) d_15 := deep_nowT tabk_2 (by kernel_rfl)
def r_16 : Row := ⟨9, [.one (.v (.slice none 0 0)), .agg [.v (.int .i64 0), .v (.int .i64 0), .v (.int .i64 0), .v (.int .i64 0), .v (.int .i64 0)]], .tup [.agg [.v (.slice none 0 0), .v (.slice none 0 0), .v (.int .i64 0)], .one (.v (.int .i64 110))]⟩
set_option maxRecDepth 1000000 in
theorem k_16 : Known Tryz.prog r_16.f r_16.l r_16.v := row_nowT tabk_2 (by kernel_rfl)
def d_17 : DRow := ⟨9, [.one (.sl 0 0 1 1), .agg [.v (.int .i64 0), .v (.int .i64 0), .v (.int .i64 0), .v (.int .i64 0), .v (.int .i64 0)]], [([.v (.int .i64 0), .v (.int .i64 0)], 29)], .tup [.agg [.v (.slice none 0 0), .v (.slice none 0 0), .v (.int .i64 0)], .one (.v (.int .i64 110))], [], [], [(0, (0, 0))]⟩
set_option maxRecDepth 1000000 in
theorem dk_17 : Deep Tryz.prog (lets0 fun _ => 0) d_17 := deep_nowT tabk_2 (by kernel_rfl)
def d_18 : DRow := ⟨9, [.one (.sl 0 0 2 2), .agg [.v (.int .i64 0), .v (.int .i64 0), .v (.int .i64 0), .v (.int .i64 0), .v (.int .i64 0)]], [([.v (.int .i64 (-1)), .v (.int .i64 0), .v (.int .i64 2), .v (.int .i64 0)], 29)], .tup [.agg [.v (.slice none 0 0), .v (.slice none 0 0), .v (.int .i64 0)], .one (.v (.int .i64 110))], [], [], [(0, (0, 0))]⟩
set_option maxRecDepth 1000000 in
theorem dk_18 : Deep Tryz.prog (lets0 fun _ => 0) d_18 := deep_nowT tabk_2 (by kernel_rfl)
def d_19 : DRow := ⟨9, [.one (.sl 0 0 1 1), .agg [.v (.int .i64 0), .v (.int .i64 0), .v (.int .i64 0), .v (.int .i64 0), .v (.int .i64 0)]], [([.v (.int .i64 1000000001), .v (.int .i64 0)], 29)], .tup [.agg [.v (.slice none 0 0), .v (.slice none 0 0), .v (.int .i64 0)], .one (.v (.int .i64 110))], [], [], [(0, (0, 0))]⟩
set_option maxRecDepth 1000000 in
theorem dk_19 : Deep Tryz.prog (lets0 fun _ => 0) d_19 := deep_nowT tabk_2 (by kernel_rfl)
def d_20 : DRow := ⟨9, [.one (.sl 0 0 1 1), .agg [.v (.int .i64 0), .v (.int .i64 0), .v (.int .i64 0), .v (.int .i64 0), .v (.int .i64 0)]], [([.v (.int .i64 1), .v (.int .i64 13)], 29)], .tup [.agg [.v (.slice none 0 0), .v (.slice none 0 0), .v (.int .i64 0)], .one (.v (.int .i64 110))], [], [], [(0, (0, 0))]⟩
set_option maxRecDepth 1000000 in
theorem dk_20 : Deep Tryz.prog (lets0 fun _ => 0) d_20 := deep_nowT tabk_2 (by kernel_rfl)
def d_21 : DRow := ⟨9, [.one (.sl 0 0 1 1), .agg [.v (.int .i64 0), .v (.int .i64 0), .v (.int .i64 0), .v (.int .i64 0), .v (.int .i64 0)]], [([.v (.int .i64 1), .v (.int .i64 (-1))], 29)], .tup [.agg [.v (.slice none 0 0), .v (.slice none 0 0), .v (.int .i64 0)], .one (.v (.int .i64 110))], [], [], [(0, (0, 0))]⟩
set_option maxRecDepth 1000000 in
theorem dk_21 : Deep Tryz.prog (lets0 fun _ => 0) d_21 := deep_nowT tabk_2 (by kernel_rfl)
def d_22 : DRow := ⟨9, [.one (.sl 0 0 12 12), .agg [.v (.int .i64 0), .v (.int .i64 0), .v (.int .i64 0), .v (.int .i64 0), .v (.int .i64 0)]], [([.v (.int .i64 0), .v (.int .i64 0), .v (.int .i64 0), .v (.int .i64 0), .v (.int .i64 0), .v (.int .i64 0), .v (.int .i64 0), .v (.int .i64 0), .v (.int .i64 0), .v (.int .i64 0), .v (.int .i64 0), .v (.int .i64 0), .v (.int .i64 0), .v (.int .i64 0), .v (.int .i64 0), .v (.int .i64 0), .v (.int .i64 0), .v (.int .i64 0), .v (.int .i64 0), .v (.int .i64 0), .v (.int .i64 0), .v (.int .i64 0), .v (.int .i64 0), .v (.int .i64 0)], 29)], .tup [.agg [.v (.slice none 0 0), .v (.slice none 0 0), .v (.int .i64 0)], .one (.v (.int .i64 110))], [], [], [(0, (0, 0))]⟩
set_option maxRecDepth 1000000 in
theorem dk_22 : Deep Tryz.prog (lets0 fun _ => 0) d_22 := deep_nowT tabk_2 (by kernel_rfl)
def d_23 : DRow := ⟨9, [.one (.slf 0 0 13 2), .agg [.v (.int .i64 0), .v (.int .i64 0), .v (.int .i64 0), .v (.int .i64 0), .v (.int .i64 0)]], [([.v (.int .i64 0), .v (.int .i64 0), .v (.int .i64 0), .v (.int .i64 0), .v (.int .i64 0), .v (.int .i64 0), .v (.int .i64 0), .v (.int .i64 0), .v (.int .i64 0), .v (.int .i64 0), .v (.int .i64 0), .v (.int .i64 0), .v (.int .i64 0), .v (.int .i64 0), .v (.int .i64 0), .v (.int .i64 0), .v (.int .i64 0), .v (.int .i64 0), .v (.int .i64 0), .v (.int .i64 0), .v (.int .i64 0), .v (.int .i64 0), .v (.int .i64 0), .v (.int .i64 0), .v (.int .i64 1), .v (.int .i64 0)], 29)], .tup [.agg [.v (.slice none 0 0), .v (.slice none 0 0), .v (.int .i64 0)], .one (.v (.int .i64 110))], [], [], [(0, (0, 0))]⟩
set_option maxRecDepth 1000000 in
theorem dk_23 : Deep Tryz.prog (lets0 fun _ => 0) d_23 := deep_nowT tabk_2 (by kernel_rfl)
def d_24 : DRow := ⟨9, [.one (.sl 0 0 4 4), .agg [.v (.int .i64 0), .v (.int .i64 10), .v (.int .i64 1000), .v (.int .i64 0), .v (.int .i64 0)]], [([.v (.int .i64 50), .v (.int .i64 0), .v (.int .i64 30), .v (.int .i64 1), .v (.int .i64 15), .v (.int .i64 1), .v (.int .i64 5), .v (.int .i64 0)], 29)], .tup [.agg [.v (.slice none 0 0), .v (.slice none 0 0), .v (.int .i64 0)], .one (.v (.int .i64 2))], [], [], [(0, (0, 0))]⟩
set_option maxRecDepth 1000000 in
theorem dk_24 : Deep Tryz.prog (lets0 fun _ => 0) d_24 := deep_nowT tabk_2 (by kernel_rfl)
def d_25 : DRow := ⟨9, [.one (.sl 0 0 4 4), .agg [.v (.int .i64 5), .v (.int .i64 10), .v (.int .i64 1000), .v (.int .i64 0), .v (.int .i64 0)]], [([.v (.int .i64 50), .v (.int .i64 0), .v (.int .i64 30), .v (.int .i64 1), .v (.int .i64 15), .v (.int .i64 1), .v (.int .i64 5), .v (.int .i64 0)], 29)], .tup [.agg [.v (.slice none 0 0), .v (.slice none 0 0), .v (.int .i64 0)], .one (.v (.int .i64 2))], [], [], [(0, (0, 0))]⟩
set_option maxRecDepth 1000000 in
theorem dk_25 : Deep Tryz.prog (lets0 fun _ => 0) d_25 := deep_nowT tabk_2 (by kernel_rfl)
def rs_2a : List Row := [r_16]
theorem rs_2a_k : ∀ r ∈ rs_2a, Known Tryz.prog r.f r.l r.v := List.forall_mem_cons.2 ⟨k_16, (fun _ h => by cases h)⟩
def ds_2a : List DRow := [d_14, d_15, d_17, d_18, d_19, d_20, d_21, d_22, d_23, d_24, d_25]
theorem ds_2a_k : ∀ d ∈ ds_2a, Deep Tryz.prog (lets0 fun _ => 0) d := List.forall_mem_cons.2 ⟨dk_14, List.forall_mem_cons.2 ⟨dk_15, List.forall_mem_cons.2 ⟨dk_17, List.forall_mem_cons.2 ⟨dk_18, List.forall_mem_cons.2 ⟨dk_19, List.forall_mem_cons.2 ⟨dk_20, List.forall_mem_cons.2 ⟨dk_21, List.forall_mem_cons.2 ⟨dk_22, List.forall_mem_cons.2 ⟨dk_23, List.forall_mem_cons.2 ⟨dk_24, List.forall_mem_cons.2 ⟨dk_25, (fun _ h => by cases h)⟩⟩⟩⟩⟩⟩⟩⟩⟩⟩⟩
end Go.Proofs.YtjjibclfmknblaaGreat.Y
