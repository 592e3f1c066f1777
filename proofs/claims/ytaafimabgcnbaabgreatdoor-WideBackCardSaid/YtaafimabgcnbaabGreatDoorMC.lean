/-
  Calls that are known: powers.
-/
import Derived.Test.YtaafimabgcnbaabGreatDoorMB
set_option linter.all false
namespace Go.Proofs.YtaafimabgcnbaabGreatDoor
open Go Go.Rx Go.RowKit
def r_pow1 : Row := ⟨26, [wide (-2), int 511], ok (wide (-2^511))⟩
theorem k_pow1 : Known Tryz.prog r_pow1.f r_pow1.l r_pow1.v := row_known env0 (fuel := 5000) (by kernel_rfl)
def r_pow2 : Row := ⟨26, [wide 2, int 511], big⟩
theorem k_pow2 : Known Tryz.prog r_pow2.f r_pow2.l r_pow2.v := row_known env0 (fuel := 5000) (by kernel_rfl)
def r_pow3 : Row := ⟨26, [wide 0, int 0], ok (wide 1)⟩
theorem k_pow3 : Known Tryz.prog r_pow3.f r_pow3.l r_pow3.v := row_known env0 (fuel := 5000) (by kernel_rfl)
end Go.Proofs.YtaafimabgcnbaabGreatDoor
