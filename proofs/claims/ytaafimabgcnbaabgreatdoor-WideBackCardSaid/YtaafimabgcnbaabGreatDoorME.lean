/-
  Calls that are known: roots, texts.
-/
import Derived.Test.YtaafimabgcnbaabGreatDoorMB
set_option linter.all false
namespace Go.Proofs.YtaafimabgcnbaabGreatDoor
open Go Go.Rx Go.RowKit
def r_root1 : Row := ⟨27, [wide 80], ok (wide 8)⟩
theorem k_root1 : Known Tryz.prog r_root1.f r_root1.l r_root1.v := row_known env0 (fuel := 5000) (by kernel_rfl)
def r_root2 : Row := ⟨27, [wide 81], ok (wide 9)⟩
theorem k_root2 : Known Tryz.prog r_root2.f r_root2.l r_root2.v := row_known env0 (fuel := 5000) (by kernel_rfl)
def r_root3 : Row := ⟨27, [wide (-1)], bad 2⟩
theorem k_root3 : Known Tryz.prog r_root3.f r_root3.l r_root3.v := row_known env0 (fuel := 5000) (by kernel_rfl)
def r_parse1 : Row := ⟨6, [str "-17"], ok (wide (-17))⟩
theorem k_parse1 : Known Tryz.prog r_parse1.f r_parse1.l r_parse1.v := row_known env0 (fuel := 5000) (by kernel_rfl)
def r_parse2 : Row := ⟨6, [str "-0"], bad 5⟩
theorem k_parse2 : Known Tryz.prog r_parse2.f r_parse2.l r_parse2.v := row_known env0 (fuel := 5000) (by kernel_rfl)
def r_parse3 : Row := ⟨6, [str "017"], bad 5⟩
theorem k_parse3 : Known Tryz.prog r_parse3.f r_parse3.l r_parse3.v := row_known env0 (fuel := 5000) (by kernel_rfl)
def r_parse4 : Row := ⟨6, [str ""], bad 5⟩
theorem k_parse4 : Known Tryz.prog r_parse4.f r_parse4.l r_parse4.v := row_known env0 (fuel := 5000) (by kernel_rfl)
end Go.Proofs.YtaafimabgcnbaabGreatDoor
