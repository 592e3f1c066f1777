/-
  Calls that are known: sums, products, quotients, divisors.
-/
import Derived.Test.YtaafimabgcnbaabGreatDoorMB
set_option linter.all false
namespace Go.Proofs.YtaafimabgcnbaabGreatDoor
open Go Go.Rx Go.RowKit
def r_addbig : Row := ⟨18, [wide (2^511-1), wide 1], big⟩
theorem k_addbig : Known Tryz.prog r_addbig.f r_addbig.l r_addbig.v := row_known env0 (fuel := 5000) (by kernel_rfl)
def r_negbig : Row := ⟨20, [wide (-2^511)], big⟩
theorem k_negbig : Known Tryz.prog r_negbig.f r_negbig.l r_negbig.v := row_known env0 (fuel := 5000) (by kernel_rfl)
def r_mul1 : Row := ⟨21, [wide (2^255), wide (2^255)], ok (wide (2^510))⟩
theorem k_mul1 : Known Tryz.prog r_mul1.f r_mul1.l r_mul1.v := row_known env0 (fuel := 5000) (by kernel_rfl)
def r_mul2 : Row := ⟨21, [wide (2^256), wide (-2^255)], ok (wide (-2^511))⟩
theorem k_mul2 : Known Tryz.prog r_mul2.f r_mul2.l r_mul2.v := row_known env0 (fuel := 5000) (by kernel_rfl)
def r_div1 : Row := ⟨23, [wide (-7), wide 2], okk (wide (-4)) (wide 1)⟩
theorem k_div1 : Known Tryz.prog r_div1.f r_div1.l r_div1.v := row_known env0 (fuel := 5000) (by kernel_rfl)
def r_div2 : Row := ⟨23, [wide 7, wide (-2)], okk (wide (-3)) (wide 1)⟩
theorem k_div2 : Known Tryz.prog r_div2.f r_div2.l r_div2.v := row_known env0 (fuel := 5000) (by kernel_rfl)
def r_div3 : Row := ⟨23, [wide (-7), wide (-2)], okk (wide 4) (wide 1)⟩
theorem k_div3 : Known Tryz.prog r_div3.f r_div3.l r_div3.v := row_known env0 (fuel := 5000) (by kernel_rfl)
def r_div4 : Row := ⟨23, [wide (-2^511), wide (-1)], badd 6⟩
theorem k_div4 : Known Tryz.prog r_div4.f r_div4.l r_div4.v := row_known env0 (fuel := 5000) (by kernel_rfl)
def r_div5 : Row := ⟨23, [wide 1, wide 0], badd 7⟩
theorem k_div5 : Known Tryz.prog r_div5.f r_div5.l r_div5.v := row_known env0 (fuel := 5000) (by kernel_rfl)
def r_gcd1 : Row := ⟨25, [wide (-12), wide 18], ok (wide 6)⟩
theorem k_gcd1 : Known Tryz.prog r_gcd1.f r_gcd1.l r_gcd1.v := row_known env0 (fuel := 5000) (by kernel_rfl)
def r_gcd2 : Row := ⟨25, [wide (-2^511), wide 0], big⟩
theorem k_gcd2 : Known Tryz.prog r_gcd2.f r_gcd2.l r_gcd2.v := row_known env0 (fuel := 5000) (by kernel_rfl)
end Go.Proofs.YtaafimabgcnbaabGreatDoor
