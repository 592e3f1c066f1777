/-
  Calls that are known, each by one run.
-/
import Derived.Test.YtjjibclfmknblabGreatMRyK3
set_option linter.all false
namespace Go.Proofs.YtjjibclfmknblabGreat.Y
open Go Go.Ry Go.RowKit
def r_87 : Row := ⟨4, [], .s (.one (.v (.bool true)))⟩
set_option maxRecDepth 1000000 in
theorem k_87 : Known Tryz.prog r_87.f r_87.l r_87.v := row_nowT tabk_3 (by kernel_rfl)
def rs_3a : List Row := [r_87]
theorem rs_3a_k : ∀ r ∈ rs_3a, Known Tryz.prog r.f r.l r.v := List.forall_mem_cons.2 ⟨k_87, (fun _ h => by cases h)⟩
end Go.Proofs.YtjjibclfmknblabGreat.Y
