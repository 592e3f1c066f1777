/-
  Contracts of the reference: Integer, in range.
  Contracts of the reference: Int, Small.
-/
import Derived.Test.YtaafimabgcnbaabGreatDoorMO
set_option linter.all false
namespace Go.Proofs.YtaafimabgcnbaabGreatDoor
open Go Go.RowKit Go.Big
attribute [local instance] noAv
theorem nonneg_test {p : Int} (h : ¬ p < 0) : decide (p < 0) = false := by simpa using h
theorem nonpos_test {p : Int} (h : ¬ 0 < p) : decide (0 < p) = false := by simpa using h
theorem ord_low {z c : Int} (h : c ≤ z) : ∃ p, ordI z c = p ∧ decide (p < 0) = false := ⟨_, rfl, nonneg_test (by unfold ordI; rw [if_neg (by omega)]; split <;> omega)⟩
theorem ord_high {z c : Int} (h : z ≤ c) : ∃ p, ordI z c = p ∧ decide (0 < p) = false := ⟨_, rfl, nonpos_test (by unfold ordI; split <;> (try split) <;> omega)⟩
theorem wrap_neg {x : Int} (h0 : 0 ≤ x) (h1 : x ≤ 9223372036854775808) : wrap64 (IntKind.u64.wrap (-x)) = - x := by
  rw [IntKind.wrap_u64]; unfold wrap64; omega
theorem pw2 : pw 2 = 18446744073709551616 := by decide
end Go.Proofs.YtaafimabgcnbaabGreatDoor
namespace Go.Proofs.YtaafimabgcnbaabGreatDoor
open Go Go.RowKit Go.Big
attribute [local instance] noAv
/-- What a draft holds. -/
def smallN (b : Bool) (l : Int) : Int := sgz b (l % 1000001)
end Go.Proofs.YtaafimabgcnbaabGreatDoor
