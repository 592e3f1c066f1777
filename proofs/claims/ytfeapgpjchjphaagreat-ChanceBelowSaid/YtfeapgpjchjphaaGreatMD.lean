/-
  Calls that are known: sums, products, quotients, divisors.
-/
import Derived.Test.YtfeapgpjchjphaaGreatMB
set_option linter.all false
namespace Go.Proofs.YtfeapgpjchjphaaGreat
open Go Go.Rx Go.RowKit
def r_addbig : Row := ⟨75, [wide (2^511-1), wide 1], big⟩
theorem k_addbig : Known Tryz.prog r_addbig.f r_addbig.l r_addbig.v := row_known env0 (fuel := 5000) (by kernel_rfl)
def r_gcd1 : Row := ⟨82, [wide (-12), wide 18], ok (wide 6)⟩
theorem k_gcd1 : Known Tryz.prog r_gcd1.f r_gcd1.l r_gcd1.v := row_known env0 (fuel := 5000) (by kernel_rfl)
def r_gcd2 : Row := ⟨82, [wide (-2^511), wide 0], big⟩
theorem k_gcd2 : Known Tryz.prog r_gcd2.f r_gcd2.l r_gcd2.v := row_known env0 (fuel := 5000) (by kernel_rfl)
end Go.Proofs.YtfeapgpjchjphaaGreat
